package tests

import (
	"math/rand/v2"
	"regexp"
	"slices"
	"strings"
	"testing"

	"loop.example/fugleman/impl"
)

func TestLexLimits(t *testing.T) {
	if impl.TokWord != 1 || impl.TokSign != 2 || impl.ScriptMax != 500 || impl.WordMax != 60 {
		t.Error("kinds of tokens, limits of words")
	}
	if impl.PieceText != 1 || impl.PieceVar != 2 || impl.PieceLast != 3 || impl.PieceMath != 4 {
		t.Error("kinds of pieces")
	}
}

func text(s string) impl.Piece           { return impl.Piece{Kind: impl.PieceText, Text: s} }
func quoted(s string) impl.Piece         { return impl.Piece{Kind: impl.PieceText, Text: s, Quoted: true} }
func name(s string) impl.Piece           { return impl.Piece{Kind: impl.PieceVar, Text: s} }
func last() impl.Piece                   { return impl.Piece{Kind: impl.PieceLast} }
func wordAt(s string, at int) impl.Token { return impl.Token{Kind: impl.TokWord, Text: s, At: at} }
func signAt(s string, at int) impl.Token { return impl.Token{Kind: impl.TokSign, Text: s, At: at} }
func sumOf(s string) impl.Piece          { return impl.Piece{Kind: impl.PieceMath, Text: s} }

// inQuotes is a piece as it is between `"`.
func inQuotes(p impl.Piece) impl.Piece {
	p.Quoted = true
	return p
}

// words are some with what they are made of.
func words() map[string][]impl.Piece {
	return map[string][]impl.Piece{
		"a":                   {text("a")},
		"~":                   {text("~")},
		"a#":                  {text("a#")},
		"!%*+,-./:=?@[]^_`{}": {text("!%*+,-./:=?@[]^_`{}")},
		"''":                  {quoted("")},
		`""`:                  {quoted("")},
		`''""''`:              {quoted("")},
		"' '":                 {quoted(" ")},
		"'#'":                 {quoted("#")},
		`'"\$x $((1'`:         {quoted(`"\$x $((1`)},
		`"'#;&|<>()~ "`:       {quoted("'#;&|<>()~ ")},
		`a'b'`:                {text("a"), quoted("b")},
		`'a'b`:                {quoted("a"), text("b")},
		`''b`:                 {quoted(""), text("b")},
		`a''b`:                {text("a"), quoted(""), text("b")},
		`a""b`:                {text("a"), quoted(""), text("b")},
		`'a'"b"\c'd'`:         {quoted("abcd")},
		`a\ b`:                {text("a"), quoted(" "), text("b")},
		`\a\b`:                {quoted("ab")},
		`\#`:                  {quoted("#")},
		`\\`:                  {quoted(`\`)},
		`\'\"\$x`:             {quoted(`'"$`), text("x")},
		`"\"\\\$\a\ "`:        {quoted(`"\$a `)},
		`$?`:                  {last()},
		`$??`:                 {last(), text("?")},
		`$?$?`:                {last(), last()},
		`$x`:                  {name("x")},
		`$x.y`:                {name("x"), text(".y")},
		`$x$y`:                {name("x"), name("y")},
		`$_a1Z`:               {name("_a1Z")},
		`$abcdef`:             {name("abcdef")},
		`$abcdef''g`:          {name("abcdef"), quoted(""), text("g")},
		`${x}y`:               {name("x"), text("y")},
		`${abcdef}g`:          {name("abcdef"), text("g")},
		`$((1))`:              {sumOf("1")},
		`$(( 1 + x ))y`:       {sumOf(" 1 + x "), text("y")},
		`$(((1)+(2)))`:        {sumOf("(1)+(2)")},
		`$((((((((1))))))))`:  {sumOf("((((((1))))))")},
		`"$x"`:                {quoted(""), inQuotes(name("x"))},
		`"$?"`:                {quoted(""), inQuotes(last())},
		`"${x}y"`:             {quoted(""), inQuotes(name("x")), quoted("y")},
		`"$((1+2))"`:          {quoted(""), inQuotes(sumOf("1+2"))},
		`"a$x"`:               {quoted("a"), inQuotes(name("x"))},
		`"a$x b"c`:            {quoted("a"), inQuotes(name("x")), quoted(" b"), text("c")},
		`"$x$y"`:              {quoted(""), inQuotes(name("x")), inQuotes(name("y"))},
		`"$x"$y`:              {quoted(""), inQuotes(name("x")), name("y")},
		`"$x"""`:              {quoted(""), inQuotes(name("x")), quoted("")},
		`"$x"''\a`:            {quoted(""), inQuotes(name("x")), quoted("a")},
		`$x""`:                {name("x"), quoted("")},
		`a"b $x"'c'$((1+2))`:  {text("a"), quoted("b "), inQuotes(name("x")), quoted("c"), sumOf("1+2")},
	}
}

// checkPieces asks what holds of the pieces of all texts (P10).
func checkPieces(t *testing.T, s string) []impl.Piece {
	t.Helper()
	list := impl.WordPieces(s)
	if (len(list) > 0) != impl.WordOk(s) {
		t.Errorf("%q: WordOk is %v, pieces are %v", s, impl.WordOk(s), list)
	}
	for i, p := range list {
		if i > 0 && p.Kind == impl.PieceText && list[i-1].Kind == impl.PieceText && p.Quoted == list[i-1].Quoted {
			t.Errorf("%q: two of text side by side: %v", s, list)
		}
		ok := p.Kind == impl.PieceText && (p.Text != "" || p.Quoted) || p.Kind == impl.PieceVar && impl.NameOk(p.Text) || p.Kind == impl.PieceLast && p.Text == "" || p.Kind == impl.PieceMath && impl.MathOk(p.Text)
		if !ok {
			t.Errorf("%q: piece %v", s, p)
		}
	}
	return list
}

func TestP10Words(t *testing.T) {
	for s, want := range words() {
		if list := checkPieces(t, s); !impl.WordOk(s) || !slices.Equal(list, want) {
			t.Errorf("%q: %v, not %v", s, list, want)
		}
	}
}

// unfinished are parts of a word that are not whole, wherever they stand, with the place of what is not; a byte that is not printed comes behind each.
func unfinished() map[string]int {
	return map[string]int{
		"'": 0, "'a ": 0, `'\`: 0, `"`: 0, `"a 'b'`: 0, `"a $x`: 0, `"a \" `: 0, `"$((1)) `: 0,
		`\`: 0, `"\`: 1, `"a\`: 2, `"\\\`: 3, `"'\`: 2,
		"$": 0, "$ ": 0, "$1": 0, "$'a'": 0, `$"a"`: 0, "$$": 0, "$-": 0, "$.": 0, "$#": 0, "$*": 0, `$\x`: 0, "$abcdefg": 0, "$1a": 0, "$a234567": 0,
		"${": 0, "${}": 0, "${a": 0, "${1}": 0, "${abcdefg}": 0, "${a b}": 0, "${a ": 0, "${?}": 0, "${ a}": 0, "${a.": 0, "${$a}": 0,
		"$(": 0, "$()": 0, "$(1)": 0, "$((": 0, "$(())": 0, "$((1": 0, "$((1)": 0, "$((1) )": 0, "$((1+))": 0, "$((1)+(2))": 0, "$((1))": -1, "$( (1))": 0, "$((a.b))": 0, "$((abcdefg))": 0, "$(((1))": 0, "$((((((((1))))))": 0, "$(((((((((1)))))))))": 0,
		`"$1"`: 1, `"a $1"`: 3, `"$abcdefg"`: 1, `"$"`: 1, `"$ "`: 1, `"${a"`: 1, `"$((1+)"`: 1, `"$((1)"`: 1, `"\a$"`: 3, `"$x$1`: 3, `"$((1))$(("`: 7,
	}
}

func TestP10NoWords(t *testing.T) {
	long := strings.Repeat("a", 58)
	for _, s := range []string{"", " ", "#", "#a", "a b", " a", "a ", "a\n", "\n", "a;", ";", "a;b", "&", "a&b", "&&", "|", "<", ">", ">>", "(", ")", "a(b)", "\t", "a\tb", "\x00", "a\x00", "\x7f", "\x80", "é", "'a\tb'", "'a\nb'", "\"\x7f\"", "\\\n", "\\\t", "\\\x80", "''#' ", "$x y", "$((1)))", long + "abc", "'" + long + "a'", "\"" + long + "a\"", strings.Repeat("'", 62), strings.Repeat("a", 100000)} {
		if list := checkPieces(t, s); list != nil {
			t.Errorf("%q: %v", s, list)
		}
	}
	for s, at := range unfinished() {
		if list := checkPieces(t, s); at >= 0 && list != nil {
			t.Errorf("%q: %v", s, list)
		}
	}
	for _, s := range []string{long + "ab", "'" + long + "'", "\"" + long + "\"", strings.Repeat(`\a`, 30), strings.Repeat("$?", 30), strings.Repeat("'", 60), "$((" + long[:55] + "))"} {
		if ok := impl.WordOk(s); ok != !strings.HasPrefix(s, "$((") {
			t.Errorf("%q: %v", s, ok)
		}
	}
	sum := "$((" + strings.Repeat("1+", 27) + "1))"
	if list := checkPieces(t, sum); len(sum) != 60 || !slices.Equal(list, []impl.Piece{sumOf(sum[3:58])}) {
		t.Errorf("%q: %v", sum, list)
	}
}

// wordShape is the form of words, but for sums and the number of bytes.
func wordShape() *regexp.Regexp {
	const (
		named  = `\$[A-Za-z_][A-Za-z0-9_]{0,5}`
		dollar = `\$\?|\$\{[A-Za-z_][A-Za-z0-9_]{0,5}\}`
		apart  = `'[ -&(-~]*'|\\[ -~]|` + dollar
		inner  = `\\[ -~]|` + dollar
	)
	// Behind a `$` and a name none of its bytes may follow, or the name would be a longer one.
	double := `"(?:[ !#%-\[\]-~]|` + inner + `|(?:` + named + `)+(?:[ !#%-/:-@\[\]^` + "`" + `{-~]|` + inner + `))*(?:` + named + `)*"`
	bare := `[!#%*+,\-./0-9:=?@A-Z\[\]^_` + "`" + `a-z{}~]`
	other := `[!#%*+,\-./:=?@\[\]^` + "`" + `{}~]`
	return regexp.MustCompile(`^(?:` + bare + `|` + apart + `|` + double + `|(?:` + named + `)+(?:` + other + `|` + apart + `|` + double + `))*(?:` + named + `)*$`)
}

func TestP10AllTexts(t *testing.T) {
	t.Parallel()
	form := wordShape()
	check := func(s string) {
		if want := s != "" && s[0] != '#' && len(s) <= impl.WordMax && form.MatchString(s); impl.WordOk(s) != want {
			t.Fatalf("%q: %v", s, !want)
		}
		checkPieces(t, s)
	}
	eachText(allBytes(), 2, check)
	eachText(`a1'"\$ #{}?;`, 4, check)
	eachText(`a'"\$?`, 6, check)
	dice := newDice(10)
	for range 200000 {
		check(randomText(dice, "abcdef_1'\"\\$$#{}? &.\x00\x7f", 14))
	}
	// Of these the sum is all that stands between.
	eachText("1a+() ", 6, func(s string) {
		word := "$((" + s + "))"
		if impl.WordOk(word) != impl.MathOk(s) {
			t.Fatalf("%q: %v", word, impl.WordOk(word))
		}
		// Between quotes a `)` behind the sum is text.
		if ok := impl.WordOk(`"` + word + `"`); ok != impl.MathOk(s) && (!ok || !strings.Contains(s, ")")) {
			t.Fatalf("%q between quotes", word)
		}
	})
}

// bareBytes stand for themselves, and go on with no name.
const bareBytes = "!%*+,-./:=?@[]^`{}~"

// randomPart is a part of a word that is not between `"`, with its pieces, and whether a name would go on behind it.
func randomPart(dice *rand.Rand) (string, []impl.Piece, bool) {
	switch dice.IntN(4) {
	case 0:
		s := randomText(dice, bareBytes+"abXY09_", 4)
		if s == "" {
			s = "."
		}
		return s, []impl.Piece{text(s)}, false
	case 1:
		s := randomText(dice, "ab \"\\$#;&|<>()~", 4)
		return "'" + s + "'", []impl.Piece{quoted(s)}, false
	case 2:
		s, p := randomDollar(dice)
		return s, []impl.Piece{p}, s[1] != '{' && p.Kind == impl.PieceVar
	}
	return "", nil, false
}

func randomDollar(dice *rand.Rand) (string, impl.Piece) {
	names := []string{"x", "_", "abcdef", "A9", "if"}
	n := names[dice.IntN(len(names))]
	switch dice.IntN(4) {
	case 0:
		return "$?", last()
	case 1:
		return "$" + n, name(n)
	case 2:
		return "${" + n + "}", name(n)
	}
	sums := []string{"1", " x ", "(1)+(2)", "-(x % 3)", "((a))"}
	s := sums[dice.IntN(len(sums))]
	return "$((" + s + "))", sumOf(s)
}

// randomEscape is `\` and a byte.
func randomEscape(dice *rand.Rand) (string, impl.Piece) {
	c := string(rune(' ' + dice.IntN('~'-' '+1)))
	return `\` + c, quoted(c)
}

// randomDouble is what stands between `"`, with its pieces.
func randomDouble(dice *rand.Rand) (string, []impl.Piece) {
	s, list, open := "", []impl.Piece{quoted("")}, false
	for range dice.IntN(4) {
		more, p := randomEscape(dice)
		switch dice.IntN(3) {
		case 0:
			more = randomText(dice, "'#;&|<>() .~", 3)
			if !open {
				more += randomText(dice, "ab09_", 2)
			}
			p = quoted(more)
		case 1:
			more, p = randomDollar(dice)
			p.Quoted = true
		}
		if more != "" {
			s, list = s+more, append(list, p)
			open = more[0] == '$' && more[1] != '{' && p.Kind == impl.PieceVar
		}
	}
	return `"` + s + `"`, list
}

// mergedPieces puts text together that is quoted alike.
func mergedPieces(list []impl.Piece) []impl.Piece {
	var merged []impl.Piece
	for i, p := range list {
		if i > 0 && p.Kind == impl.PieceText && list[i-1].Kind == impl.PieceText && p.Quoted == list[i-1].Quoted {
			merged[len(merged)-1].Text += p.Text
		} else {
			merged = append(merged, p)
		}
	}
	return merged
}

// randomWord is a word of at most so many bytes, with its pieces.
func randomWord(dice *rand.Rand, most int) (string, []impl.Piece) {
	word, list, open := "", []impl.Piece(nil), false
	for len(list) == 0 || dice.IntN(3) > 0 {
		s, more, opens := randomPart(dice)
		switch {
		case more == nil && dice.IntN(2) == 0:
			s, more = randomDouble(dice)
		case more == nil:
			var p impl.Piece
			s, p = randomEscape(dice)
			more = []impl.Piece{p}
		}
		if open && impl.NameOk("a"+s[:1]) {
			continue
		}
		if len(word)+len(s) > most {
			if len(list) > 0 {
				break
			}
			continue
		}
		word, list, open = word+s, append(list, more...), opens
	}
	return word, mergedPieces(list)
}

func TestP10RandomWords(t *testing.T) {
	dice := newDice(101)
	for range 30000 {
		word, want := randomWord(dice, impl.WordMax)
		if list := checkPieces(t, word); !slices.Equal(list, want) {
			t.Fatalf("%q: %v, not %v", word, list, want)
		}
		checkPieces(t, spoil(dice, word, "a'\"\\${}()? #\t"))
	}
}

// checkLex asks what holds of the words and signs of all texts (P8).
func checkLex(t *testing.T, s string) ([]impl.Token, int) {
	t.Helper()
	list, at := impl.Lex(s)
	if at < -1 || at > len(s) || at >= 0 && len(list) > 0 {
		t.Fatalf("%q: place %d, %v", s, at, list)
	}
	behind := 0
	for _, token := range list {
		if token.At < behind || !strings.HasPrefix(s[token.At:], token.Text) || !isSeparating(s[behind:token.At]) {
			t.Fatalf("%q: %v does not stand there", s, token)
		}
		sign := slices.Contains(signs(), token.Text)
		if token.Kind == impl.TokSign && !sign || token.Kind == impl.TokWord && !impl.WordOk(token.Text) || token.Kind != impl.TokSign && token.Kind != impl.TokWord {
			t.Fatalf("%q: %v is neither a word nor a sign", s, token)
		}
		behind = token.At + len(token.Text)
	}
	if at < 0 && !isSeparating(s[behind:]) {
		t.Fatalf("%q: %q is left", s, s[behind:])
	}
	return list, at
}

// isSeparating says whether a text may stand between words: blanks, and perhaps a remark.
func isSeparating(s string) bool {
	s = strings.TrimLeft(s, " ")
	return s == "" || s[0] == '#' && !strings.Contains(s, "\n")
}

func signs() []string {
	return []string{";;", "&&", "||", ">>", ";", "|", "<", ">", "(", ")", "\n"}
}

// laidOut is tokens with blanks and remarks between, and where they stand.
func laidOut(dice *rand.Rand, many int) (string, []impl.Token) {
	s, list := "", []impl.Token(nil)
	for range many {
		kind, next := impl.TokWord, ""
		if dice.IntN(2) == 0 {
			next, _ = randomWord(dice, 12)
			for next[0] == '#' {
				next, _ = randomWord(dice, 12)
			}
		} else {
			kind, next = impl.TokSign, signs()[dice.IntN(len(signs()))]
		}
		gap := blanks(dice)
		if n := len(list); n > 0 && gap == "" && list[n-1].Kind == kind && (kind == impl.TokWord || strings.HasSuffix(s, next[:1])) {
			gap = " "
		}
		if next == "\n" && dice.IntN(2) == 0 && (gap != "" || len(list) > 0 && list[len(list)-1].Kind == impl.TokSign) {
			gap += "#" + randomText(dice, "a '\"\\$#;&\t\x00\xff", 5)
		}
		s += gap
		list = append(list, impl.Token{Kind: kind, Text: next, At: len(s)})
		s += next
	}
	return s, list
}

func askLex(t *testing.T, s string, want ...impl.Token) {
	t.Helper()
	if list, at := checkLex(t, s); at != -1 || !slices.Equal(list, want) {
		t.Errorf("%q: %d %v, not %v", s, at, list, want)
	}
}

func askPlace(t *testing.T, s string, want int) {
	t.Helper()
	if _, at := checkLex(t, s); at != want {
		t.Errorf("%q: place %d, not %d", s, at, want)
	}
}

func TestP8Laid(t *testing.T) {
	for _, s := range []string{"", " ", "   ", "#", "# a 'b", " #", "#\x00\t\xff$(", "  ## "} {
		askLex(t, s)
	}
	askLex(t, "a;;;&&|||>>><>()\n\n", wordAt("a", 0), signAt(";;", 1), signAt(";", 3), signAt("&&", 4), signAt("||", 6), signAt("|", 8), signAt(">>", 9), signAt(">", 11), signAt("<", 12), signAt(">", 13), signAt("(", 14), signAt(")", 15), signAt("\n", 16), signAt("\n", 17))
	askLex(t, "a#b;#c\n;'#' # d#\n\\#e#", wordAt("a#b", 0), signAt(";", 3), signAt("\n", 6), signAt(";", 7), wordAt("'#'", 8), signAt("\n", 16), wordAt(`\#e#`, 17))
	askLex(t, `a'b c'"d;e"$((1 + 2))\ f $x<$y`, wordAt(`a'b c'"d;e"$((1 + 2))\ f`, 0), wordAt("$x", 25), signAt("<", 27), wordAt("$y", 28))
	askLex(t, ">#a\n>'a'", signAt(">", 0), signAt("\n", 3), signAt(">", 4), wordAt("'a'", 5))
	askLex(t, "if { x } ! # }", wordAt("if", 0), wordAt("{", 3), wordAt("x", 5), wordAt("}", 7), wordAt("!", 9))
	dice := newDice(8)
	for range 20000 {
		s, want := laidOut(dice, dice.IntN(12))
		if len(s) <= impl.ScriptMax {
			askLex(t, s, want...)
		}
	}
}

// ahead is some text that ends where a word could begin.
func ahead(dice *rand.Rand) string {
	s, _ := laidOut(dice, dice.IntN(4))
	switch dice.IntN(3) {
	case 0:
		return s + " "
	case 1:
		return s + " ;"
	}
	return s + "\n"
}

func TestP8Unfinished(t *testing.T) {
	dice := newDice(80)
	for s, at := range unfinished() {
		if at < 0 {
			continue
		}
		askPlace(t, s, at)
		for _, behind := range []string{"\n", "\n'", "\n\"", "\n))", "\n}", "\x00", "\t'", "\x7f\"", "\x80a"} {
			askPlace(t, s+behind, at)
		}
		for range 50 {
			first := ahead(dice)
			begun, _ := randomWord(dice, 8)
			for len(begun) > 0 && strings.Contains(begun, "$") {
				begun, _ = randomWord(dice, 8)
			}
			askPlace(t, first+s, len(first)+at)
			askPlace(t, first+s+"\n$1 '", len(first)+at)
			askPlace(t, first+begun+s+"\n", len(first)+len(begun)+at)
		}
	}
}

func TestP8NoneBegins(t *testing.T) {
	for _, c := range []byte(allBytes()) {
		if c >= ' ' && c <= '~' && c != '&' || c == '\n' {
			continue
		}
		s := string([]byte{c})
		askPlace(t, s, 0)
		askPlace(t, "a "+s, 2)
		askPlace(t, "ab"+s+"'", 2)
		askPlace(t, "''"+s+"c", 2)
		askPlace(t, "$x"+s+" &&", 2)
		askPlace(t, "a;"+s+" 'b", 2)
		askPlace(t, "#"+s+"\n"+s, 3)
		askPlace(t, "\n"+s+" "+s, 1)
	}
	askPlace(t, "a&&&b", 3)
	askPlace(t, "a & b", 2)
	askPlace(t, "a &&& 'b", 4)
	askLex(t, "'&'\\&\"&\"", wordAt(`'&'\&"&"`, 0))
}

func TestP8Long(t *testing.T) {
	for _, s := range []string{"a", `\a`, "$?", "''", `""`, "$x$y", "'abc '", `"\a$((1)) "`} {
		word := strings.Repeat(s, impl.WordMax/len(s))
		word += strings.Repeat(".", impl.WordMax-len(word))
		askLex(t, "b "+word+";", wordAt("b", 0), wordAt(word, 2), signAt(";", 62))
		askPlace(t, "b "+word+"-", 2)
		askPlace(t, "b "+word+"--;c", 2)
		askPlace(t, "b;"+word+"-\t", 2)
		askPlace(t, "b "+word+"- 'c", 2)
		// What is not whole is told, though the word is too long as well.
		askPlace(t, "b "+word+"-'c", 63)
		askPlace(t, "b "+word+`-"\`, 64)
	}
	word := strings.Repeat("w", 59) + " "
	s := strings.Repeat(word, 8)
	list, at := checkLex(t, s+"'ab' c #d, efghijklm")
	if at != -1 || len(list) != 10 {
		t.Error(at, list)
	}
	for _, more := range []string{"'ab' c #d, efghijklmn", "'ab' c #d, efghijklm\n", strings.Repeat(" ", 21), strings.Repeat("w", 21), "'ab' c #d, efghijkl\x00&", strings.Repeat(" ", 100000)} {
		askPlace(t, s+more, impl.ScriptMax)
	}
	askPlace(t, "'"+strings.Repeat(" ", 499), 0)
	askPlace(t, "'"+strings.Repeat(" ", 500), impl.ScriptMax)
	askPlace(t, strings.Repeat(" ", 499)+"&", 499)
	askLex(t, strings.Repeat(" ", 500))
}

func TestP8AllTexts(t *testing.T) {
	t.Parallel()
	eachText(allBytes(), 2, func(s string) { checkLex(t, s) })
	eachText("a'\"\\$ #;&\n", 5, func(s string) { checkLex(t, s) })
	dice := newDice(81)
	for range 50000 {
		checkLex(t, randomText(dice, "abc_1'\"\\$$#{}()?;&|<>\n  \t\x00\xff", 40))
		s, _ := laidOut(dice, dice.IntN(10))
		checkLex(t, spoil(dice, s, "a'\"\\${}()#;&|<>\n \t\xff"))
	}
}

// checkLines holds the words and signs of two texts against those of both (P9).
func checkLines(t *testing.T, a string, b string) {
	t.Helper()
	both := a + "\n" + b
	if len(both) > impl.ScriptMax {
		return
	}
	want, at := impl.Lex(a)
	second, place := impl.Lex(b)
	want = append(want, impl.Token{Kind: impl.TokSign, Text: "\n", At: len(a)})
	for _, token := range second {
		token.At += len(a) + 1
		want = append(want, token)
	}
	switch {
	case at >= 0:
		askPlace(t, both, at)
	case place >= 0:
		askPlace(t, both, len(a)+1+place)
	default:
		askLex(t, both, want...)
	}
}

func TestP9Lines(t *testing.T) {
	t.Parallel()
	dice := newDice(9)
	for range 20000 {
		a, _ := laidOut(dice, dice.IntN(8))
		b, _ := laidOut(dice, dice.IntN(8))
		checkLines(t, a, b)
		checkLines(t, spoil(dice, a, "'\"\\$#("), b)
		checkLines(t, a+" #"+a, spoil(dice, b, "'\"\\$#("))
	}
	eachText("a'\\# ;", 3, func(a string) {
		eachText("a'#; ", 3, func(b string) { checkLines(t, a, b) })
	})
	half := strings.Repeat(" ", 248) + "a"
	checkLines(t, half, half+" ")
	checkLines(t, half+" ", half)
}

func TestWordQuote(t *testing.T) {
	plain := "abcXYZ019._-/"
	for s, want := range map[string]string{
		"": "''", " ": "' '", "a": "a", plain: plain, "a.b": "a.b", "it's": `'it'\''s'`, "'": `''\'''`, "''": `''\'''\'''`, "#": "'#'", "a b": "'a b'", "$x": "'$x'", `\`: `'\'`, `"`: `'"'`, "*": "'*'", "~": "'~'", "=": "'='", "{": "'{'", ";": "';'", "a:": "'a:'",
		"\n": "", "a\n": "", "\t": "", "\x00": "", "\x7f": "", "\x80": "", "é": "", "a b\x1f": "",
	} {
		if got := impl.WordQuote(s); got != want {
			t.Errorf("%q: %q, not %q", s, got, want)
		}
	}
	long := strings.Repeat("a", 60)
	for s, want := range map[string]string{
		long: long, long + "a": "", long[:57] + " ": "'" + long[:57] + " '", long[:58] + " ": "", strings.Repeat("'", 14): "'" + strings.Repeat(`'\''`, 14) + "'", strings.Repeat("'", 15): "", strings.Repeat("'", 14) + "  ": "'" + strings.Repeat(`'\''`, 14) + "  '", strings.Repeat("'", 14) + "   ": "", strings.Repeat("a", 100000): "",
	} {
		if got := impl.WordQuote(s); got != want {
			t.Errorf("%q: %q, not %q", s, got, want)
		}
	}
	for _, c := range []byte(allBytes()) {
		s := string([]byte{c})
		want := "'" + s + "'"
		switch {
		case c < ' ' || c > '~':
			want = ""
		case strings.Contains(plain, s) || impl.NameOk("a"+s):
			want = s
		case c == '\'':
			want = `''\'''`
		}
		if got := impl.WordQuote(s); got != want {
			t.Errorf("%q: %q, not %q", s, got, want)
		}
	}
	checkQuoted(t)
}

// checkQuoted asks that a word that was quoted says just its text.
func checkQuoted(t *testing.T) {
	dice := newDice(11)
	for range 20000 {
		s := randomText(dice, "ab'\"\\$ #*;&./-", 20)
		word := impl.WordQuote(s)
		said := ""
		for _, p := range impl.WordPieces(word) {
			if p.Kind != impl.PieceText || !p.Quoted && strings.ContainsAny(p.Text, "*'\"\\$ #;&") {
				t.Errorf("%q: %q: %v", s, word, p)
			}
			said += p.Text
		}
		if said != s || !impl.WordOk(word) && word != "" {
			t.Errorf("%q: %q", s, word)
		}
	}
}

func TestWordAnswersAreNew(t *testing.T) {
	first, _ := impl.Lex("a;b")
	for i := range first {
		first[i] = impl.Token{}
	}
	askLex(t, "a;b", wordAt("a", 0), signAt(";", 1), wordAt("b", 2))
	pieces := impl.WordPieces(`a"b"`)
	clear(pieces)
	if list := impl.WordPieces(`a"b"`); !slices.Equal(list, []impl.Piece{text("a"), quoted("b")}) {
		t.Error(list)
	}
}
