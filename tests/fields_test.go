package tests

import (
	"math/rand/v2"
	"regexp"
	"slices"
	"strconv"
	"strings"
	"testing"

	"loop.example/fugleman/impl"
)

func TestFieldLimits(t *testing.T) {
	if impl.FieldMax != 50 || impl.FieldMany != 12 || impl.VarMax != 6 || impl.FileMax != 6 || impl.StatusMax != 127 {
		t.Error("limits of fields")
	}
}

// meetsPattern says by a table, one row for each byte of the pattern, whether a text is as it says.
func meetsPattern(pattern string, s string) bool {
	row := make([]bool, len(s)+1)
	row[0] = true
	for _, c := range []byte(pattern) {
		next := make([]bool, len(s)+1)
		for i := range next {
			if c == '*' {
				next[i] = row[i] || i > 0 && next[i-1]
			} else {
				next[i] = i > 0 && row[i-1] && s[i-1] == c
			}
		}
		row = next
	}
	return row[len(s)]
}

// checkPattern holds a pattern and a text against each other, and asks what holds of all of them (P17).
func checkPattern(t *testing.T, pattern string, s string) bool {
	t.Helper()
	want := len(pattern) <= impl.PlainMax && len(s) <= impl.FieldMax && meetsPattern(pattern, s)
	if got := impl.PatMatch(pattern, s); got != want {
		t.Fatalf("%q, %q: %v", pattern, s, got)
	}
	if !strings.Contains(pattern, "*") && want && pattern != s {
		t.Fatalf("%q is not %q", pattern, s)
	}
	for _, more := range []string{"*" + pattern, pattern + "*"} {
		if want && len(more) <= impl.PlainMax && !impl.PatMatch(more, s) {
			t.Fatalf("%q, but not %q: %q", pattern, more, s)
		}
	}
	return want
}

func TestP17Patterns(t *testing.T) {
	for _, c := range [][2]string{
		{"", ""}, {"a", "a"}, {"abc", "abc"}, {"*", ""}, {"*", "a"}, {"*", "*"}, {"*", "a b\n\x00\xff"}, {"**", ""}, {"***", "abc"}, {"a*", "a"}, {"a*", "abc"}, {"*a", "a"}, {"*a", "cba"}, {"*a", "aa"}, {"a*b", "ab"}, {"a*b", "abb"}, {"a*b", "axxb"}, {"a**b", "ab"}, {"a***b", "a*b"}, {"*a*", "a"}, {"*a*", "bab"}, {"*ab*", "aab"}, {"*aab", "aaab"}, {"*ab*ab", "abab"}, {"*ab*ab", "ababab"}, {"a*a", "aa"}, {"1*7", "127"}, {"a*b*c", "abcbc"}, {"a*b*", "axxbyy"}, {"*.log", ".log"}, {"\xff*", "\xff"}, {"?", "?"}, {"[a]", "[a]"}, {"\\*", "\\x"}, {"*a*b*c*", "xaybzc"}, {"**a**b**", "ab"}, {".", "."}, {"a*ba", "aba"}, {"*ba", "bbba"},
	} {
		if !checkPattern(t, c[0], c[1]) {
			t.Errorf("%q", c)
		}
	}
	for _, c := range [][2]string{
		{"", "a"}, {"", "*"}, {"a", ""}, {"a", "b"}, {"a", "A"}, {"a", "aa"}, {"aa", "a"}, {"ab", "a"}, {"a*", ""}, {"a*", "ba"}, {"*a", ""}, {"*a", "ab"}, {"a*a", "a"}, {"a*b", "axxby"}, {"a*b", "b"}, {"*a*", "b"}, {"*a*", ""}, {"*ab*ab", "ab"}, {"*ab*ab", "aba"}, {"a**a", "a"}, {"*aab", "aaba"}, {"?", "a"}, {".", "a"}, {"[a]", "a"}, {"\\*", "*"}, {"a", "*"}, {"a*ba", "aa"}, {"*a*b*", "ba"},
	} {
		if checkPattern(t, c[0], c[1]) {
			t.Errorf("%q", c)
		}
	}
}

func TestP17AllTexts(t *testing.T) {
	t.Parallel()
	var texts []string
	eachText("ab*", 4, func(s string) { texts = append(texts, s) })
	eachText("ab", 6, func(s string) { texts = append(texts, s) })
	eachText("ab*", 5, func(pattern string) {
		for _, s := range texts {
			checkPattern(t, pattern, s)
		}
	})
	dice := newDice(17)
	met := 0
	for range 100000 {
		if checkPattern(t, randomText(dice, "aab**", 22), randomText(dice, "aaab", 52)) {
			met++
		}
		s := randomText(dice, "ab\x00*", 12)
		if !checkPattern(t, "*", s) || !strings.Contains(s, "*") && !checkPattern(t, s, s) {
			t.Fatalf("%q", s)
		}
	}
	if met < 1000 {
		t.Error(met)
	}
}

func TestP17Limits(t *testing.T) {
	long := strings.Repeat("a", 52)
	for size := 18; size <= 22; size++ {
		want := size <= impl.PlainMax
		for _, pattern := range []string{long[:size], strings.Repeat("*", size), "*" + long[1:size], long[1:size] + "*"} {
			if checkPattern(t, pattern, long[:size]) != want {
				t.Errorf("%q", pattern)
			}
		}
	}
	for size := 48; size <= 52; size++ {
		for _, pattern := range []string{"*", "a*", "*a", "a*a*a", strings.Repeat("*a", 10)} {
			if checkPattern(t, pattern, long[:size]) != (size <= impl.FieldMax) {
				t.Errorf("%q, %d", pattern, size)
			}
		}
	}
	checkPattern(t, strings.Repeat("*a", 9)+"*b", long[:50])
	checkPattern(t, strings.Repeat("*", 1000000), "a")
	checkPattern(t, "*", strings.Repeat("a", 1000000))
}

// scene is what words are looked at with.
type scene struct {
	vars  []impl.Var
	names []string
	last  int
}

var saidForm = regexp.MustCompile(`^[ -~]{0,50}$`)

// isOk says whether a scene is as the document asks.
func (s scene) isOk() bool {
	for i, v := range s.vars {
		if !nameForm.MatchString(v.Name) || !saidForm.MatchString(v.Text) || i > 0 && strings.Compare(s.vars[i-1].Name, v.Name) >= 0 {
			return false
		}
	}
	for i, name := range s.names {
		if !plainForm.MatchString(name) || i > 0 && strings.Compare(s.names[i-1], name) >= 0 {
			return false
		}
	}
	return len(s.vars) <= 6 && len(s.names) <= 6 && s.last >= 0 && s.last <= 127
}

// said is what a piece says.
func (s scene) said(p impl.Piece) (string, bool) {
	switch p.Kind {
	case impl.PieceVar:
		for _, v := range s.vars {
			if v.Name == p.Text {
				return v.Text, true
			}
		}
		return "", true
	case impl.PieceLast:
		return strconv.Itoa(s.last), true
	case impl.PieceMath:
		value, code := impl.MathRun(p.Text, s.vars)
		return strconv.Itoa(value), code == impl.MathFine
	}
	return p.Text, true
}

// Bytes that are quoted stand above all others, and an opening one is of no byte.
const (
	quotedFrom = 0xE000
	opening    = 0xF000
)

// marked is all that pieces say, in runes of which each tells whether it is quoted.
func (s scene) marked(pieces []impl.Piece) (string, bool) {
	all := ""
	for _, p := range pieces {
		says, ok := s.said(p)
		if !ok {
			return "", false
		}
		if p.Quoted {
			all += string(rune(opening))
		}
		for _, c := range []byte(says) {
			if p.Quoted {
				all += string(rune(quotedFrom + int(c)))
			} else {
				all += string(rune(c))
			}
		}
	}
	return all, true
}

// plainText is a marked text without its marks.
func plainText(marked string) string {
	return strings.Map(func(c rune) rune {
		if c == opening {
			return -1
		}
		return c % quotedFrom
	}, marked)
}

// filesSo is the files that a marked field stands for, or itself.
func (s scene) filesSo(marked string) []string {
	if !strings.Contains(marked, "*") {
		return []string{plainText(marked)}
	}
	form := ""
	for _, c := range marked {
		switch {
		case c == '*':
			form += ".*"
		case c != opening:
			form += regexp.QuoteMeta(string(c % quotedFrom))
		}
	}
	var list []string
	all := regexp.MustCompile("^" + form + "$")
	for _, name := range s.names {
		if all.MatchString(name) {
			list = append(list, name)
		}
	}
	if len(list) == 0 {
		return []string{plainText(marked)}
	}
	return list
}

// fields is what pieces must come to.
func (s scene) fields(pieces []impl.Piece) ([]string, bool) {
	all, ok := s.marked(pieces)
	var list []string
	for _, marked := range strings.Fields(all) {
		if len(plainText(marked)) > impl.FieldMax {
			ok = false
		}
		list = append(list, s.filesSo(marked)...)
	}
	if !ok || len(list) > impl.FieldMany || len(pieces) == 0 || !s.isOk() {
		return nil, false
	}
	return list, true
}

// one is what pieces must come to, as one.
func (s scene) one(pieces []impl.Piece) (string, bool) {
	all, ok := s.marked(pieces)
	if text := plainText(all); ok && len(text) <= impl.FieldMax && s.isOk() {
		return text, true
	}
	return "", false
}

// checkFields holds what a word comes to against what its pieces must come to (P18).
func (s scene) checkFields(t *testing.T, word string, pieces []impl.Piece) ([]string, bool) {
	t.Helper()
	vars, varsUntouched := guarded(t, s.vars, impl.Var{Name: "mark", Text: "5"})
	names, namesUntouched := guarded(t, s.names, "mark")
	list, ok := impl.Fields(word, vars, names, s.last)
	one, oneOk := impl.FieldOne(word, vars, s.last)
	varsUntouched("Fields")
	namesUntouched("Fields")
	want, wantOk := s.fields(pieces)
	if ok != wantOk || !slices.Equal(list, want) {
		t.Fatalf("%q with %v: %q %v, not %q %v", word, s, list, ok, want, wantOk)
	}
	s.names = nil
	wantOne, wantOneOk := s.one(pieces)
	if word != "" && len(pieces) == 0 {
		wantOne, wantOneOk = "", false
	}
	if one != wantOne || oneOk != wantOneOk {
		t.Fatalf("%q with %v, as one: %q %v, not %q %v", word, s, one, oneOk, wantOne, wantOneOk)
	}
	if len(list) > impl.FieldMany || slices.ContainsFunc(list, func(f string) bool { return len(f) > impl.FieldMax }) {
		t.Fatalf("%q with %v: too many or too long: %q", word, s, list)
	}
	return list, ok
}

// ask asks for the fields of a word.
func (s scene) ask(t *testing.T, word string, want ...string) {
	t.Helper()
	if list, ok := s.checkFields(t, word, impl.WordPieces(word)); !ok || !slices.Equal(list, want) {
		t.Errorf("%q with %v: %q %v, not %q", word, s, list, ok, want)
	}
}

// refuse asks that a word has no fields, but for what it is as one.
func (s scene) refuse(t *testing.T, word string) {
	t.Helper()
	if list, ok := s.checkFields(t, word, impl.WordPieces(word)); ok || len(list) > 0 {
		t.Errorf("%q with %v: %q", word, s, list)
	}
}

func (s scene) askOne(t *testing.T, word string, want string, wantOk bool) {
	t.Helper()
	if one, ok := impl.FieldOne(word, s.vars, s.last); ok != wantOk || one != want {
		t.Errorf("%q with %v: %q %v", word, s, one, ok)
	}
}

func saying(name string, text string) scene {
	return scene{vars: []impl.Var{{Name: name, Text: text}}}
}

// room is some names and files.
func room() scene {
	return scene{
		vars:  []impl.Var{{Name: "b", Text: "  "}, {Name: "e", Text: ""}, {Name: "n", Text: "3"}, {Name: "s", Text: "*"}, {Name: "w", Text: "two words"}, {Name: "x", Text: " 1 2 "}},
		names: []string{"a.log", "ab", "b", "c.log"},
		last:  7,
	}
}

func TestP18Fields(t *testing.T) {
	s := room()
	for word, want := range map[string][]string{
		"a": {"a"}, "a.log": {"a.log"}, "''": {""}, `""`: {""}, `''""`: {""}, "'a b'": {"a b"}, `a\ b`: {"a b"}, "a'b'c": {"abc"}, "'a b'c": {"a bc"},
		"$none": nil, "$e": nil, "$e$none${b}$e": nil, `"$e"`: {""}, `''$e`: {""}, `$e''`: {""}, `"$none$e"`: {""}, `""$b""`: {"", ""}, `$b""$b`: {""}, `$x''$x''$x`: {"1", "2", "", "1", "2", "", "1", "2"},
		"$w": {"two", "words"}, `"$w"`: {"two words"}, "a$w": {"atwo", "words"}, "${w}b": {"two", "wordsb"}, "a${w}b": {"atwo", "wordsb"}, "$w$w": {"two", "wordstwo", "words"}, `a"$w"b`: {"atwo wordsb"}, `$w" "$w`: {"two", "words two", "words"},
		"$x": {"1", "2"}, "a$x": {"a", "1", "2"}, "${x}b": {"1", "2", "b"}, "a${x}b": {"a", "1", "2", "b"}, "$x$x": {"1", "2", "1", "2"}, `"$x"`: {" 1 2 "}, `a"$x"b`: {"a 1 2 b"}, `""$x`: {"", "1", "2"}, `$x""`: {"1", "2", ""}, `"a"$x'b'`: {"a", "1", "2", "b"},
		"$b": nil, "a$b": {"a"}, "${b}a": {"a"}, "a${b}c": {"a", "c"}, "a$b$b$e${b}c": {"a", "c"}, `a"$b"c`: {"a  c"}, "a${e}c": {"ac"}, "a$e$none''c": {"ac"},
		"$?": {"7"}, `"$?"`: {"7"}, "a$?b": {"a7b"}, "$?$?": {"77"}, "$?$x": {"7", "1", "2"}, "$x$?": {"1", "2", "7"},
		"$((n * 2))b": {"6b"}, `"$((n-5))"`: {"-2"}, "$((none))": {"0"}, "$((e+1))$((n))": {"13"}, "$x$((1))": {"1", "2", "1"}, "$((0-999999))": {"-999999"},
		`\$x`: {"$x"}, `'$x'`: {"$x"}, `"\$x"`: {"$x"}, "a#": {"a#"}, `\#`: {"#"}, "~": {"~"}, "a=$w": {"a=two", "words"},
	} {
		s.ask(t, word, want...)
	}
}

func TestFieldOne(t *testing.T) {
	s := room()
	for word, want := range map[string]string{
		"": "", "''": "", `""`: "", "a": "a", "$e": "", "$none": "", "$b": "  ", "$x": " 1 2 ", `"$x"`: " 1 2 ", `a$x""$?`: "a 1 2 7", "$w$w": "two wordstwo words", "'a b'c": "a bc", "*": "*", "*.log": "*.log", "$s": "*", `'*'\*"*"`: "***", "$((n+1))": "4", "$?": "7", "a$((0-n))": "a-3", `\ `: " ",
	} {
		s.askOne(t, word, want, true)
	}
	for _, word := range []string{" ", "a b", "#", "#a", ";", "'a", "$", "$1", "$((1", "a\n", "\x00", "\n", "$((1/0))", "a$((w))", `"$((999999+1))"`, "$((1/0))a", strings.Repeat("a", 51), strings.Repeat("a", 61), "$w$w$w$w$w$w"} {
		s.askOne(t, word, "", false)
	}
	long := saying("l", strings.Repeat("x", 40)+" *'\"\\$ #;")
	long.askOne(t, "$l", long.vars[0].Text, true)
	long.askOne(t, "${l}1", long.vars[0].Text+"1", true)
	long.askOne(t, "${l}12", "", false)
	long.askOne(t, "$l$?", long.vars[0].Text+"0", true)
	long.askOne(t, `""$l$?"$?"`, "", false)
	scene{last: 127}.askOne(t, "$?", "127", true)
}

func TestP18Wrong(t *testing.T) {
	s := room()
	for _, word := range []string{"", " ", "a b", " a", "a ", "#", "#a", ";", "a;", "&", "|", "<", "(", "'a", `"a`, `a\`, "$", "$1", "${x", "$((1", "$((1+))", "a\n", "a\tb", "\x00", "\x7f", "é", strings.Repeat("a", 61), strings.Repeat("'", 61), strings.Repeat("a", 100000), "$((1/0))", "a$((1%0))b", `"$((1/e))"`, "$((w))", "$((x+1))", "$((s))", "$((b))", "$((999999+n))", "$x$((1/0))", "$((1/0))$x", "''$((n/0))''"} {
		s.refuse(t, word)
	}
}

// P18: each limit met exactly, and one more.
func TestP18Limits(t *testing.T) {
	long := strings.Repeat("a", 60)
	for size := 48; size <= 52; size++ {
		for _, word := range []string{long[:size], "'" + long[:size] + "'", `"` + long[:size] + `"`, "*" + long[:size-1], `\*` + long[:size-1]} {
			if _, ok := room().checkFields(t, word, impl.WordPieces(word)); ok != (size <= impl.FieldMax) {
				t.Errorf("%q: %v", word, ok)
			}
		}
	}
	l := saying("l", long[:50])
	l.ask(t, "$l", long[:50])
	l.refuse(t, "${l}b")
	l.refuse(t, "b$l")
	l.refuse(t, `"${l}b"`)
	l.refuse(t, "$l$l")
	l.refuse(t, "$l$?")
	l.ask(t, `$l""`, long[:50])
	// Parted, each of them counts for itself.
	l = saying("l", long[:24]+" "+long[:25])
	l.ask(t, "$l$l", long[:24], long[:49], long[:25])
	l.ask(t, "$l'b'$l", long[:24], long[:25]+"b"+long[:24], long[:25])
	l.refuse(t, "$l'bc'$l")
	l.refuse(t, `"$l$l"`)
	// Fields are counted ahead of files, and behind.
	twelve := "1 2 3 4 5 6 7 8 9 10 11 12"
	many := saying("l", twelve)
	many.ask(t, "$l", strings.Fields(twelve)...)
	many.ask(t, `$l""`, strings.Fields(twelve)...)
	many.refuse(t, "$l$l")
	many = saying("l", twelve+" ")
	many.ask(t, "$l", strings.Fields(twelve)...)
	many.refuse(t, `$l""`)
	many.refuse(t, "${l}a")
	saying("l", twelve+" 13").refuse(t, "$l")
	stars := saying("l", "* * ")
	stars.names = []string{"a", "b", "c", "d", "e", "f"}
	stars.ask(t, "$l", "a", "b", "c", "d", "e", "f", "a", "b", "c", "d", "e", "f")
	stars.ask(t, `${l}`, "a", "b", "c", "d", "e", "f", "a", "b", "c", "d", "e", "f")
	stars.refuse(t, "${l}a")
	stars.refuse(t, `$l''`)
	stars.refuse(t, "$l*")
	stars.names = stars.names[:4]
	stars.ask(t, "$l*", "a", "b", "c", "d", "a", "b", "c", "d", "a", "b", "c", "d")
	stars.refuse(t, "$l*$?*$l")
	// A field is too long ahead of files, though files are not.
	starry := saying("l", strings.Repeat("*", 49))
	starry.names = []string{"a", "b"}
	starry.ask(t, "$l*", "a", "b")
	starry.refuse(t, "$l**")
	starry.ask(t, strings.Repeat("*", 21)+"b", "b")
	starry.ask(t, `$l\*`, strings.Repeat("*", 50))
}

// P18: of a word without quotes, between `"`, it is that of the word as one.
func TestP18Quoted(t *testing.T) {
	t.Parallel()
	dice := newDice(18)
	both, refused := 0, 0
	for range 30000 {
		word, _ := randomWord(dice, 30)
		if strings.ContainsAny(word, "'\"\\") || !impl.WordOk(word) || !impl.WordOk(`"`+word+`"`) {
			continue
		}
		s := randomScene(dice)
		one, oneOk := impl.FieldOne(word, s.vars, s.last)
		list, ok := s.checkFields(t, `"`+word+`"`, impl.WordPieces(`"`+word+`"`))
		if ok != oneOk || ok && !slices.Equal(list, []string{one}) {
			t.Fatalf("%q with %v: %q %v, %q %v", word, s, list, ok, one, oneOk)
		}
		if ok {
			both++
		} else {
			refused++
		}
	}
	if both < 2000 || refused < 200 {
		t.Error(both, refused)
	}
}

// randomScene is what words are looked at with, of the names that random words have.
func randomScene(dice *rand.Rand) scene {
	s := scene{last: []int{0, 1, 10, 127, dice.IntN(128)}[dice.IntN(5)]}
	for _, n := range []string{"A9", "_", "a", "abcdef", "if", "x"} {
		if dice.IntN(4) == 0 {
			continue
		}
		v := impl.Var{Name: n, Text: randomText(dice, "ab. *", 6)}
		switch dice.IntN(5) {
		case 0:
			v.Text = strconv.Itoa(dice.IntN(50) - 10)
		case 1:
			v.Text = randomText(dice, "ab    *'\"\\$#~", 50)
		}
		s.vars = append(s.vars, v)
	}
	for _, n := range []string{"-", "a", "a.b", "a2345678901234567890", "ab", "b"} {
		if dice.IntN(2) == 0 {
			s.names = append(s.names, n)
		}
	}
	return s
}

func TestP18RandomWords(t *testing.T) {
	t.Parallel()
	dice := newDice(180)
	fine, wrong := 0, 0
	for range 40000 {
		word, pieces := randomWord(dice, impl.WordMax)
		if word[0] == '#' {
			continue
		}
		s := randomScene(dice)
		if _, ok := s.checkFields(t, word, pieces); ok {
			fine++
		} else {
			wrong++
		}
		spoilt := spoil(dice, word, "a'\"\\${}()? #\t*")
		s.checkFields(t, spoilt, impl.WordPieces(spoilt))
	}
	if fine < 5000 || wrong < 1000 {
		t.Error(fine, wrong)
	}
}

// P19: stars and blanks, quoted and not, of words and of names.
func TestP19RandomStars(t *testing.T) {
	t.Parallel()
	dice := newDice(19)
	parts := []string{"*", "*", `\*`, "'*'", `"*"`, "a", "b", ".", "''", "' '", "${x}", "${x}", `"$x"`, "${_}", `"$_*"`, "$?", "$((1))", "-", "'a'"}
	opened := 0
	for range 40000 {
		word := ""
		for range 1 + dice.IntN(6) {
			word += parts[dice.IntN(len(parts))]
		}
		s := randomScene(dice)
		list, ok := s.checkFields(t, word, impl.WordPieces(word))
		if ok && len(list) > 1 && slices.Contains(s.names, list[0]) {
			opened++
		}
	}
	if opened < 1000 {
		t.Error(opened)
	}
}

func TestP19Stars(t *testing.T) {
	for _, names := range [][]string{nil, {"a"}, {"-", ".", "/", "0", "A", "_"}, {"a.log", "ab", "b", "c.log"}, {strings.Repeat("a", 20), "b"}} {
		s := scene{names: names, last: 127}
		all := names
		if len(names) == 0 {
			all = []string{"*"}
		}
		s.ask(t, "*", all...)
		s.ask(t, "**", append(slices.Clone(names), []string{"**"}[:1-min(1, len(names))]...)...)
		for _, word := range []string{"'*'", `\*`, `"*"`, `"\*"`, `''\*`} {
			s.ask(t, word, "*")
		}
		for last := range impl.StatusMax + 1 {
			scene{names: names, last: last}.ask(t, "$?", strconv.Itoa(last))
		}
	}
	s := room()
	for word, want := range map[string][]string{
		"*.log": {"a.log", "c.log"}, "a*": {"a.log", "ab"}, "*b": {"ab", "b"}, "*b*": {"ab", "b"}, "b*": {"b"}, "*a*g": {"a.log"}, "z*": {"z*"}, "*z": {"*z"}, "'a'*": {"a.log", "ab"}, `\a*'g'`: {"a.log"}, `"*".log`: {"*.log"}, `"*.log"`: {"*.log"}, `''*`: {"a.log", "ab", "b", "c.log"}, `*''.log`: {"a.log", "c.log"},
		`'*'*`: {"**"}, `*'*'`: {"**"}, `*\**`: {"***"}, `*"*"b`: {"**b"}, `a'*'`: {"a*"}, `a*\ `: {"a* "}, `*' '*`: {"* *"}, "*.$none": {"*."}, "*$none.log": {"a.log", "c.log"},
		"$s": {"a.log", "ab", "b", "c.log"}, `"$s"`: {"*"}, "$s.log": {"a.log", "c.log"}, "a$s": {"a.log", "ab"}, "$s$s": {"a.log", "ab", "b", "c.log"}, `$s"$s"`: {"**"}, `"$s"b`: {"*b"}, "${s}b": {"ab", "b"}, `"$s"*b`: {"**b"}, "z$s": {"z*"}, "*$x": {"a.log", "ab", "b", "c.log", "1", "2"}, "*$w*": {"*two", "words*"}, "a*$b*b": {"a.log", "ab", "ab", "b"}, "$x*": {"1", "2", "a.log", "ab", "b", "c.log"}, "$?*": {"7*"}, "*$((n))": {"*3"},
		"?": {"?"}, "[ab]": {"[ab]"}, "a?": {"a?"}, "*.*": {"a.log", "c.log"},
	} {
		s.ask(t, word, want...)
	}
	s = scene{vars: []impl.Var{{Name: "l", Text: "*.log  x* *"}}, names: []string{"a.log", "b", "c.log"}, last: 0}
	s.ask(t, "$l", "a.log", "c.log", "x*", "a.log", "b", "c.log")
	s.ask(t, `"$l"`, "*.log  x* *")
	s.ask(t, "${l}b", "a.log", "c.log", "x*", "b")
	s.ask(t, `'a'$l`, "a.log", "x*", "a.log", "b", "c.log")
}

func TestP20Names(t *testing.T) {
	t.Parallel()
	check := func(text string) {
		for _, n := range []string{"x", "abcdef", "_"} {
			s := saying(n, text)
			want := strings.Fields(text)
			for _, word := range []string{"$" + n, "${" + n + "}"} {
				list, ok := s.checkFields(t, word, []impl.Piece{name(n)})
				if ok != (len(want) <= impl.FieldMany) || ok && !slices.Equal(list, want) {
					t.Fatalf("%q: %q %v", text, list, ok)
				}
				if all := strings.Join(list, ""); strings.Contains(all, " ") || len(all) > len(text) {
					t.Fatalf("%q: %q", text, list)
				}
				s.ask(t, `"`+word+`"`, text)
			}
		}
	}
	for _, text := range []string{"", " ", "  ", "a", " a", "a ", " a ", "a b", "  a  b  ", "*", " * ", "* *", "a*", "''", `"a b"`, `\ a`, "$x", "$((1))", "#", ";|&<>()", strings.Repeat("a", 50), strings.Repeat(" ", 50), strings.Repeat("a ", 12), strings.Repeat("a ", 13), strings.Repeat("* ", 25), "~!@#$%^&*()_+{}|:\"<>?`-=[]\\;',./"} {
		check(text)
	}
	eachText("a *", 6, check)
	dice := newDice(20)
	for range 5000 {
		check(randomText(dice, "ab  *'\"\\$", 50))
	}
}

// wrongVars and wrongFiles are lists that are not ok, though the words that are asked for do not name them.
func wrongVars() [][]impl.Var {
	say := func(names ...string) []impl.Var {
		var list []impl.Var
		for _, n := range names {
			list = append(list, impl.Var{Name: n, Text: "1"})
		}
		return list
	}
	list := [][]impl.Var{say("a", "a"), say("b", "a"), say("a", "c", "b"), say("a", "b", "a"), say(""), say("1"), say("abcdefg"), say("a b"), say("a-"), say("a", ""), say("é"), say("a", "B"), say("ab", "a"), say("a", "b", "c", "d", "e", "f", "g")}
	for _, text := range []string{"\n", "\t", "\x00", "\x1f", "\x7f", "\x80", "é", "a\n", "\na", strings.Repeat("a", 51), strings.Repeat(" ", 51), strings.Repeat("a", 50) + "\n"} {
		list = append(list, []impl.Var{{Name: "a", Text: text}}, []impl.Var{{Name: "Z"}, {Name: "a", Text: text}, {Name: "b"}})
	}
	return list
}

func wrongFiles() [][]string {
	return [][]string{{""}, {"a", "a"}, {"b", "a"}, {"a", "c", "b"}, {"ab", "a"}, {"a", "B"}, {"a b"}, {"*"}, {"a*"}, {"a\n"}, {"\x00"}, {"é"}, {"'a'"}, {"a:"}, {strings.Repeat("a", 21)}, {"", "a"}, {"a", ""}, {"a", "b", "c", "d", "e", "f", "g"}, {"~"}, {"a", "b", " "}}
}

func TestP18WrongNames(t *testing.T) {
	for _, word := range []string{"a", "''", "*", "$?", "$x", `"$a"`, "$((1))", "\\*"} {
		for _, vars := range wrongVars() {
			scene{vars: vars}.refuse(t, word)
			scene{vars: vars}.askOne(t, word, "", false)
			scene{vars: vars}.askOne(t, "", "", false)
		}
		for _, names := range wrongFiles() {
			scene{names: names}.refuse(t, word)
		}
		for _, last := range []int{-1, 128, -1 << 62, 1 << 62} {
			scene{last: last}.refuse(t, word)
			scene{last: last}.askOne(t, word, "", false)
			scene{last: last}.askOne(t, "", "", false)
		}
	}
	full := scene{last: 127, names: []string{"-", "..", "/", "B", "a", strings.Repeat("a", 20)}}
	for _, n := range []string{"A", "Ab", "_", "a", "a1", "abcdef"} {
		full.vars = append(full.vars, impl.Var{Name: n, Text: strings.Repeat("~", 50)})
	}
	full.ask(t, "$abcdef", strings.Repeat("~", 50))
	full.ask(t, "*", full.names...)
	full.ask(t, "$?", "127")
	full.askOne(t, "", "", true)
	scene{last: 0}.ask(t, "$?", "0")
}

// checkSays asks that a text that was quoted is said by its word (P11).
func checkSays(t *testing.T, s string) bool {
	t.Helper()
	word := impl.WordQuote(s)
	if word == "" || len(s) > impl.FieldMax {
		return false
	}
	if !impl.WordOk(word) {
		t.Fatalf("%q: %q is no word", s, word)
	}
	r := room()
	r.ask(t, word, s)
	r.askOne(t, word, s, true)
	return true
}

func TestP11Quoted(t *testing.T) {
	for _, s := range []string{"", " ", "  ", "a", "'", "''", "'a'", "it's", `"`, `""`, `\`, `\\`, `\'`, "$", "$x", "$w", "$?", "${x}", "$((1/0))", "*", "**", "*.log", "a*", "a.log", "a b", " a ", "#", "#a", "a #b", ";", "&&", "|", ">", "<", "(", ")", "{", "}", "!", "~", "=", "x=1", "if", "`", strings.Repeat("a", 50), strings.Repeat(" ", 50), strings.Repeat("*", 50), strings.Repeat("'", 14), strings.Repeat(`"`, 50), strings.Repeat(`\`, 50), strings.Repeat("$", 50)} {
		if !checkSays(t, s) {
			t.Errorf("%q", s)
		}
	}
	for _, s := range []string{"\n", "a\t", "\x00", "é", strings.Repeat("'", 15), strings.Repeat("a", 51)} {
		if checkSays(t, s) {
			t.Errorf("%q", s)
		}
	}
	// A word may be longer than a field.
	room().refuse(t, impl.WordQuote(strings.Repeat("a", 51)))
	room().refuse(t, impl.WordQuote(strings.Repeat(" ", 51)))
	eachText("a' \"\\$*#", 4, func(s string) { checkSays(t, s) })
	eachText(allBytes(), 1, func(s string) { checkSays(t, s) })
	dice := newDice(110)
	said := 0
	for range 5000 {
		if checkSays(t, randomText(dice, "abc'\"\\$ #*;&./-x{}()?", 50)) {
			said++
		}
	}
	if said < 2000 {
		t.Error(said)
	}
}

func TestFieldsAnswersAreNew(t *testing.T) {
	s := room()
	for _, word := range []string{"*", "$w", "$x*", "a"} {
		want, _ := impl.Fields(word, s.vars, s.names, s.last)
		want = slices.Clone(want)
		first, _ := impl.Fields(word, s.vars, s.names, s.last)
		for i := range first[:cap(first)] {
			first[:cap(first)][i] = "mark"
		}
		if again, _ := impl.Fields(word, s.vars, s.names, s.last); !slices.Equal(again, want) || !slices.Equal(s.names, room().names) || !slices.Equal(s.vars, room().vars) {
			t.Errorf("%q: an answer is shared", word)
		}
	}
}
