package tests

import (
	"math/rand/v2"
	"slices"
	"strings"
	"testing"

	"loop.example/fugleman/impl"
)

func TestScriptLimits(t *testing.T) {
	if impl.NodeMax != 50 || impl.DeepMax != 8 || impl.PipeMax != 160 || impl.PlainMax != 20 {
		t.Error("limits of scripts")
	}
	kinds := []int{impl.NodePipe, impl.NodeNot, impl.NodeAnd, impl.NodeOr, impl.NodeList, impl.NodeIf, impl.NodeWhile, impl.NodeUntil, impl.NodeFor, impl.NodeCase}
	if !slices.Equal(kinds, countFrom(1, 10)) {
		t.Error("kinds of nodes")
	}
}

func sameNode(a impl.Node, b impl.Node) bool {
	return a.Kind == b.Kind && a.Text == b.Text && slices.Equal(a.Names, b.Names) && slices.Equal(a.Kids, b.Kids)
}

func sameNodes(a []impl.Node, b []impl.Node) bool {
	return slices.EqualFunc(a, b, sameNode)
}

// checkScript asks what holds of what is read of all texts (P12).
func checkScript(t *testing.T, s string) ([]impl.Node, int) {
	t.Helper()
	nodes, at := impl.ScriptGet(s)
	if at < -1 || at > len(s) || (at >= 0) != (len(nodes) == 0) {
		t.Fatalf("%q: place %d, %v", s, at, nodes)
	}
	if at >= 0 {
		return nodes, at
	}
	put := impl.ScriptPut(nodes)
	again, place := impl.ScriptGet(put)
	if !impl.ScriptOk(nodes) || put == "" || place != -1 || !sameNodes(nodes, again) {
		t.Fatalf("%q: read %v, written %q, read back %v", s, nodes, put, again)
	}
	return nodes, at
}

func askScript(t *testing.T, s string, want *plant) {
	t.Helper()
	nodes, at := checkScript(t, s)
	if at != -1 || !sameNodes(nodes, nodesOf(want)) {
		t.Errorf("%q: %d %v, not %v", s, at, nodes, nodesOf(want))
	}
	if put := impl.ScriptPut(nodesOf(want)); put != written(want) {
		t.Errorf("%q: written %q, not %q", s, put, written(want))
	}
}

func askScriptPlace(t *testing.T, s string, want int) {
	t.Helper()
	if _, at := checkScript(t, s); at != want {
		t.Errorf("%q: place %d, not %d", s, at, want)
	}
}

func TestP12Commands(t *testing.T) {
	for s, want := range map[string]string{
		"a": "a", " a  b ": "a b", "a;": "a", "a;\n": "a", "\n\na": "a", "a\n\n": "a", "a|b": "a | b", "a>b": "a > b", "a >b": "a > b", ">b a": "> b a", "a>>b<c": "a >> b < c", ">b|<c": "> b | < c", "a # b": "a", "#x\na#y #z\n#": "a#y",
		"> if": "> if", "> x if": "> x if", "a if then }": "a if then }", "'if'": "'if'", `\if`: `\if`, "i''f": "i''f", "iff": "iff", "!a": "!a", "{a": "{a", "}}": "}}", "a {": "a {", "a !": "a !", "x=1 y": "x=1 y", "'a b'\"c\"$x|d": "'a b'\"c\"$x | d",
		"{ a; }": "a", "{ a\n}": "a", "{\na;\n\n}": "a", "{ { a; }; }": "a", "{ { a; } }": "a", "{ a } }; }": "a } }",
	} {
		askScript(t, s, pipe(want))
	}
	for _, word := range strings.Fields("then elif else fi do done in esac }") {
		askScriptPlace(t, word, 0)
		askScriptPlace(t, "a; "+word, 3)
		askScriptPlace(t, "a | "+word, 4)
		askScriptPlace(t, "a && "+word, 5)
		askScriptPlace(t, "! "+word, 2)
		askScriptPlace(t, "{ "+word, 2)
		askScript(t, "a "+word, pipe("a "+word))
	}
	for _, word := range strings.Fields("if while until for case { !") {
		askScriptPlace(t, word, len(word))
		askScriptPlace(t, "a | "+word+" b", 4)
		askScript(t, "a "+word, pipe("a "+word))
	}
}

func TestP12Kinds(t *testing.T) {
	a, b, c, d := pipe("a"), pipe("b"), pipe("c"), pipe("d")
	and, or, not, list := impl.NodeAnd, impl.NodeOr, impl.NodeNot, impl.NodeList
	for s, want := range map[string]*plant{
		"a&&b": grown(and, a, b), "a||\n\nb": grown(or, a, b), "a && b || c": grown(or, grown(and, a, b), c), "a || b && c || d": grown(or, grown(and, grown(or, a, b), c), d),
		"{ a && b; } || c": grown(or, grown(and, a, b), c), "a && { b || c; }": grown(and, a, grown(or, b, c)), "a && { b && c; }": grown(and, a, grown(and, b, c)),
		"! a": grown(not, a), "! ! ! a": grown(not, grown(not, grown(not, a))), "! a && b": grown(and, grown(not, a), b), "a && ! b": grown(and, a, grown(not, b)), "! { a && b; }": grown(not, grown(and, a, b)), "! { ! a; }": grown(not, grown(not, a)), "! { a; }": grown(not, a), "! a | b": grown(not, pipe("a | b")),
		"a;b": grown(list, a, b), "a\nb\n\nc;\n\nd;": grown(list, a, b, c, d), "{ a; b; }; c": grown(list, grown(list, a, b), c), "a; { b; c; }": grown(list, a, grown(list, b, c)), "{ a; b; }": grown(list, a, b), "a && b; c || d": grown(list, grown(and, a, b), grown(or, c, d)), "{ a; b; } && c": grown(and, grown(list, a, b), c), "! { a; b\n}": grown(not, grown(list, a, b)),
		"a;a": grown(list, a, a), "a # x\n# y\n\nb": grown(list, a, b),
	} {
		askScript(t, s, want)
	}
}

func TestP12Compound(t *testing.T) {
	a, b, c, d, e := pipe("a"), pipe("b"), pipe("c"), pipe("d"), pipe("e")
	list := grown(impl.NodeList, a, b)
	two := grown(impl.NodeIf, a, b)
	each := func(name string, kid *plant, names ...string) *plant {
		return &plant{kind: impl.NodeFor, text: name, names: names, kids: []*plant{kid}}
	}
	cases := func(kids []*plant, names ...string) *plant {
		return &plant{kind: impl.NodeCase, names: names, kids: kids}
	}
	for s, want := range map[string]*plant{
		"if a; then b; fi": two, "if\na\nthen\nb\nfi": two, "if { a; } then { b; } fi": two, "if a; then b; else c; fi": grown(impl.NodeIf, a, b, c), "if a; b; then a; b; else a; b; fi": grown(impl.NodeIf, list, list, list),
		"if a; then b; elif c; then d; fi": grown(impl.NodeIf, a, b, grown(impl.NodeIf, c, d)), "if a; then b; elif c; then d; else e; fi": grown(impl.NodeIf, a, b, grown(impl.NodeIf, c, d, e)), "if a; then b; else if c; then d; fi; fi": grown(impl.NodeIf, a, b, grown(impl.NodeIf, c, d)), "if a; then b; else if c; then d; fi fi": grown(impl.NodeIf, a, b, grown(impl.NodeIf, c, d)),
		"if a; then b; elif c; then d; elif e; then a; else b; fi": grown(impl.NodeIf, a, b, grown(impl.NodeIf, c, d, grown(impl.NodeIf, e, a, b))), "if if a; then b; fi; then c; fi": grown(impl.NodeIf, two, c), "if a; then b; fi && c": grown(impl.NodeAnd, two, c), "! if a; then b; fi": grown(impl.NodeNot, two), "if a; then b; fi; c": grown(impl.NodeList, two, c), "if a; then b fi; fi": grown(impl.NodeIf, a, pipe("b fi")),
		"while a; do b; done": grown(impl.NodeWhile, a, b), "until a\ndo\nb;\ndone": grown(impl.NodeUntil, a, b), "while a; b; do a; b; done": grown(impl.NodeWhile, list, list), "until { a; }\ndo { { b; } } done": grown(impl.NodeUntil, a, b),
		"for i in x; do a; done": each("i", a, "x"), "for in in in do done\n\n\ndo a; b; done": each("in", list, "in", "do", "done"), "for i in 1 a.b -/_;\ndo a\ndone": each("i", a, "1", "a.b", "-/_"),
		"case $? in 0) a;; esac": cases([]*plant{a}, "0"), "case $? in\n\n0)\na\n;;\n\n*)b;;esac": cases([]*plant{a, b}, "0", "*"), "case $? in in) a; b;; 1*.) a; b; ;; esac": cases([]*plant{list, list}, "in", "1*."), "case $? in 0) case $? in 1) a;; esac;; esac": cases([]*plant{cases([]*plant{a}, "1")}, "0"), "case $? in 0) { a; };; esac": cases([]*plant{a}, "0"), "case $? in 0) a esac;; esac": cases([]*plant{pipe("a esac")}, "0"), "case $? in 0) a;; 0) a;; esac": cases([]*plant{a, a}, "0", "0"), "case $? in 0) a;\n;; esac": cases([]*plant{a}, "0"),
	} {
		askScript(t, s, want)
	}
}

func TestP12Places(t *testing.T) {
	for s, at := range map[string]int{
		"": 0, " ": 1, "\n": 1, "# a": 3, ";": 0, "a;;": 1, "a;;b": 1, "a; ;": 3, "a\n;": 2, "a;\n;": 3, "&&": 0, "a &&": 4, "a && # b": 8, "a && ; b": 5, "a\n&& b": 2, "a && && b": 5, "a || || b": 5, "|": 0, "a |": 3, "a | | b": 4, "a |\nb": 3, "a | ;": 4, "| a": 0, "a ( b )": 2, ")": 0, "(a)": 0, "a)": 1,
		">": 1, "> >": 2, "a > | b": 4, "a > ;": 4, "a >\nb": 3, "a < (": 4, "a >> >> b": 5, "a > b >": 7, "a | > ": 6, "!": 1, "! ;": 2, "!\na": 1, "! | a": 2, "{": 1, "{ }": 2, "{ a": 3, "{ a; ": 5, "{ a }": 5, "{ ; }": 2, "{ a; } b": 7, "{ a; } > b": 7, "{ a; } | b": 7, "{ a; } { b; }": 7, "{ a; }; }": 8, "{ a;; }": 3, "{ a; )": 5, "}": 0, "{\n\n}": 3,
		"if": 2, "if then": 3, "if a": 4, "if a;": 5, "if a; b": 7, "if a; fi": 6, "if a; else b; fi": 6, "if a; then": 10, "if a; then fi": 11, "if a; then b": 12, "if a; then b; done": 14, "if a; then b; else fi": 19, "if a; then b; else c; elif d": 22, "if a; then b; else c; else d; fi": 22, "if a; then b; elif fi": 19, "if a; then b; elif c; fi": 22, "if a; then b; elif c; then d; fi fi": 33, "if a; then b; fi c": 17, "if a then b; fi": 13, "if a; then b; fi then": 17,
		"while a; done": 9, "while a; do done": 12, "while a; do b; fi": 15, "while do a; done": 6, "until a; then b": 9, "until": 5, "while a; do b; done do": 20, "while a\n\ndo b": 13,
		"for": 3, "for i": 5, "for 1i in x": 4, "for abcdefg in x": 4, "for $i in x": 4, "for 'i' in x": 4, "for ; do": 4, "for i of x": 6, "for i\nin x": 5, "for i; do a; done": 5, "for i in": 8, "for i in; do": 8, "for i in\nx": 8, "for i in $x; do a; done": 9, "for i in x $y; do": 11, "for i in 'x'; do": 9, "for i in x*; do": 9, "for i in x=1; do": 9, "for i in x;; do": 10, "for i in x; ; do": 12, "for i in x | a": 11, "for i in x; a": 12, "for i in x do a; done": 17, "for i in x; do done": 15, "for i in x; do a": 16, "for i in x": 10, "for i in x;": 11, "for i in x; do a; done b": 23,
		"case": 4, "case x in": 5, "case $x in a) b;; esac": 5, "case \"$?\" in": 5, "case $?0 in": 5, "case $?": 7, "case $? on": 8, "case $?\nin": 7, "case $? in": 10, "case $? in;": 10, "case $? in esac": 11, "case $? in $x) a;; esac": 11, "case $? in (0) a;; esac": 11, "case $? in '0') a;; esac": 11, "case $? in 0": 12, "case $? in 0 1) a": 13, "case $? in 0\n) a": 12, "case $? in 0) ;; esac": 14, "case $? in 0) esac": 14, "case $? in 0) a; esac": 17, "case $? in 0) a\nesac": 16, "case $? in 0) a;;": 17, "case $? in 0) a;; ;": 18, "case $? in 0) a;; ;; esac": 18, "case $? in 0) a;; 1 esac": 20, "case $? in 0) a;; esac) b": 22, "case $? in 0) a;; esac b": 23, "case $? in ?) a;; esac": 11, "case $? in 0|1) a;; esac": 12, "case $? in\n\n": 12, "case $? in 0) a;;\n": 18,
	} {
		askScriptPlace(t, s, at)
	}
	// Lex comes first.
	for s, at := range map[string]int{") 'x": 2, "if $1": 3, "fi; a & b": 6, "a; b \\": 5, "} \"": 2, "&": 0, "\t": 0, "fi " + strings.Repeat("w", 61): 3} {
		askScriptPlace(t, s, at)
	}
}

// wordsOfAll are those of which the test below makes all scripts.
func wordsOfAll() []string {
	return append(strings.Fields("a if then else elif fi { } ! while do done for in case $? esac ; ;; && | > ) 0"), "\n")
}

// TestP12AllShort goes through all beginnings with which a script can go on, and all words and signs behind them.
func TestP12AllShort(t *testing.T) {
	t.Parallel()
	var all []impl.Token
	for _, s := range wordsOfAll() {
		one, _ := impl.Lex(s)
		all = append(all, one...)
	}
	c := newChart("LIST")
	seen := 0
	var from func(s string, most int)
	from = func(s string, most int) {
		for _, token := range all {
			longer := s + " " + token.Text
			goes := c.push(token)
			want := len(longer) - len(token.Text)
			if goes {
				want = len(longer)
			}
			if goes && c.whole() {
				want = -1
			}
			askScriptPlace(t, longer, want)
			seen++
			if goes && most > 1 {
				from(longer, most-1)
			}
			c.pop()
		}
	}
	from("", 4)
	if seen < 10000 {
		t.Error(seen)
	}
}

// wantOf is what is read of a text that a scribe wrote of a plant.
func wantOf(p *plant, s string, deepest int) ([]impl.Node, int) {
	nodes := nodesOf(p)
	switch {
	case len(s) > impl.ScriptMax:
		return nil, impl.ScriptMax
	case len(nodes) > impl.NodeMax || len(written(p)) > impl.ScriptMax || deepest > impl.DeepMax:
		return nil, len(s)
	}
	return nodes, -1
}

func TestP12RandomScripts(t *testing.T) {
	t.Parallel()
	dice := newDice(12)
	fine, over := 0, 0
	for range 8000 {
		p := randomPlant(dice, 1+dice.IntN(25))
		w := &scribe{dice: dice}
		s := w.list(p) + w.ending()
		want, place := wantOf(p, s, w.deepest)
		nodes, at := checkScript(t, s)
		if at != place || !sameNodes(nodes, want) {
			t.Fatalf("%q: %d %v, not %d %v", s, at, nodes, place, want)
		}
		if at < 0 {
			fine++
		} else {
			over++
		}
	}
	if fine < 3000 || over < 300 {
		t.Error(fine, over)
	}
}

func TestP12RandomPlaces(t *testing.T) {
	t.Parallel()
	dice := newDice(120)
	for range 5000 {
		w := &scribe{dice: dice}
		s := w.list(randomPlant(dice, 1+dice.IntN(8)))
		for range dice.IntN(4) {
			tokens, _ := impl.Lex(s)
			if len(tokens) == 0 {
				break
			}
			cut := tokens[dice.IntN(len(tokens))]
			other := tokens[dice.IntN(len(tokens))].Text
			s = s[:cut.At] + []string{"", " " + other + " ", " " + other + " " + cut.Text + " "}[dice.IntN(3)] + s[cut.At+len(cut.Text):]
		}
		tokens, wrong := impl.Lex(s)
		if wrong < 0 {
			wrong = wrongAt("LIST", tokens, len(s))
		}
		if _, at := checkScript(t, s); at != wrong && (wrong >= 0 || at != len(s)) {
			t.Fatalf("%q: place %d, not %d", s, at, wrong)
		}
	}
}

func TestP12AnyTexts(t *testing.T) {
	t.Parallel()
	dice := newDice(121)
	for range 10000 {
		checkScript(t, randomText(dice, "ab;;&|<>()!{} \n\n'$#if", 20))
		w := &scribe{dice: dice}
		checkScript(t, spoil(dice, w.list(randomPlant(dice, 6)), ";&|<>()!{} \n'$\"\\#"))
	}
	eachText(allBytes(), 2, func(s string) { checkScript(t, s) })
}

// numbered is a script of so many nodes.
func numbered(many int) string {
	return "a" + strings.Repeat(";a", many-2)
}

func TestP12Limits(t *testing.T) {
	askLong := func(s string, ok bool, at int) {
		t.Helper()
		if ok {
			at = -1
		}
		askScriptPlace(t, s, at)
	}
	for many := 48; many <= 52; many++ {
		s := numbered(many)
		askLong(s, many <= impl.NodeMax, len(s))
		askLong(s+" # b\n", many <= impl.NodeMax, len(s)+5)
		nots := strings.Repeat("! ", many-1) + "a"
		askLong(nots, many <= impl.NodeMax, len(nots))
	}
	// A place of what is wrong is told, though there are too many.
	askScriptPlace(t, numbered(60)+" )", 2*59)
	for deep := 1; deep <= 11; deep++ {
		nest := func(ahead string, behind string, around int) {
			t.Helper()
			s := strings.Repeat(ahead, deep-around) + "a" + strings.Repeat(behind, deep-around)
			askLong(s, deep <= impl.DeepMax, len(s))
			askScriptPlace(t, s+" )", len(s)+1)
		}
		nest("{ ", "\n}", 1)
		nest("! { ", "\n}", 1)
		nest("a && { ", " && b\n}", 1)
		nest("if a; then ", "\nfi", 1)
		nest("if ", "\nthen a\nfi", 1)
		nest("if a\nthen a\nelse ", "\nfi", 1)
		nest("while ", "\ndo a\ndone", 1)
		nest("until a; do ", "\ndone", 1)
		nest("for i in x; do ", "\ndone", 1)
		nest("case $? in 0) ", ";; esac", 1)
		if deep > 1 {
			s := "if a; then b" + strings.Repeat("; elif a; then b", deep-2) + "; fi"
			askLong(s, deep <= impl.DeepMax, len(s))
			s = "if a; then b" + strings.Repeat("; elif a; then b", deep-2) + "; else c; fi"
			askLong(s, deep <= impl.DeepMax, len(s))
		}
	}
	// Braces count where they stand, though they are not written.
	for elifs := range 7 {
		for braces := range 9 {
			s := "if a; then b" + strings.Repeat("\nelif a; then b", elifs) + "\nelse " + strings.Repeat("{ ", braces) + "c" + strings.Repeat("; }", braces) + "\nfi"
			askLong(s, 2+elifs+braces <= impl.DeepMax, len(s))
			s = "if a; then b" + strings.Repeat("\nelif a; then b", elifs) + "\nelif " + strings.Repeat("{ ", braces) + "c" + strings.Repeat("; }", braces) + "\nthen d\nfi; { e; }"
			askLong(s, 3+elifs+braces <= impl.DeepMax, len(s))
		}
	}
	askScriptPlace(t, strings.Repeat("{ a; };", 40)+"a", -1)
	askScriptPlace(t, "if a; then b; elif c; then d; fi;"+strings.Repeat("{ ", 7)+"a"+strings.Repeat("; }", 7), -1)
}

func TestP12LongScripts(t *testing.T) {
	word := strings.Repeat("w", 59)
	for size := 498; size <= 502; size++ {
		want, place := -1, min(size, impl.ScriptMax)
		if size > impl.ScriptMax {
			want = impl.ScriptMax
		}
		askScriptPlace(t, "a"+strings.Repeat(" ", size-1), want)
		askScriptPlace(t, "a #"+strings.Repeat("'", size-3), want)
		askScriptPlace(t, strings.Repeat("\n", size-1)+"a", want)
		askScriptPlace(t, strings.Repeat(" ", size), place)
		// Written it has so many bytes, while it is read of fewer.
		s := strings.Repeat(word+" "+word+"\n", 4)
		s += strings.Repeat("w", size-4*len("; "+word+" "+word))
		_, at := checkScript(t, s)
		if size > impl.ScriptMax && at != len(s) || size <= impl.ScriptMax && at != -1 {
			t.Errorf("%d: %q: %d", size, s, at)
		}
	}
}

func TestP12LongRows(t *testing.T) {
	word := strings.Repeat("w", 60)
	base := word + " " + word + " "
	for size := 158; size <= 163; size++ {
		row := base + strings.Repeat("w", size-len(base))
		for _, r := range []string{row, ">" + row[2:], row[:100] + "|" + row[103:], row[:50] + "|" + row[53:], row[:60] + ">>" + row[64:], row[:60] + "<" + row[63:]} {
			for _, around := range [][2]string{{"", ""}, {"a;", ""}, {"if ", "; then b; fi"}, {"b && ! ", ""}, {"\n { ", "\n}"}, {"case $? in 0) ", ";; esac"}, {"for i in x; do b; ", "\ndone"}} {
				want := -1
				if size > impl.PipeMax {
					want = len(around[0])
				}
				askScriptPlace(t, around[0]+r+around[1], want)
				askScriptPlace(t, around[0]+strings.ReplaceAll(r, " ", "  ")+around[1], want)
				if want >= 0 {
					askScriptPlace(t, around[0]+r+" )", want)
					askScriptPlace(t, around[0]+r+" | )", want)
					askScriptPlace(t, around[0]+r+" > ;", want)
					askScriptPlace(t, ") "+around[0]+r, 0)
				}
			}
		}
	}
	askScriptPlace(t, "a | | "+base+base, 4)
	askScriptPlace(t, "a; "+base+base+"; "+base+base, 3)
	askScriptPlace(t, "a; b )"+base+base, 5)
}

func TestP12PlainWords(t *testing.T) {
	long := strings.Repeat("a", impl.PlainMax)
	askScriptPlace(t, "for i in "+long+"; do a; done", -1)
	askScriptPlace(t, "for i in x "+long+"a; do a; done", 11)
	askScriptPlace(t, "case $? in "+long[1:]+"*) a;; esac", -1)
	askScriptPlace(t, "case $? in "+long+"*) a;; esac", 11)
	for _, c := range []byte(allBytes()) {
		s := string([]byte{c})
		name := "x" + s
		if tokens, at := impl.Lex(name); at >= 0 || len(tokens) != 1 || tokens[0].Text != name {
			continue
		}
		want := 9
		if plainForm.MatchString(name) {
			want = -1
		}
		askScriptPlace(t, "for i in "+name+"; do a; done", want)
		want = 11
		if patternForm.MatchString(name) {
			want = -1
		}
		askScriptPlace(t, "case $? in "+name+") a;; esac", want)
	}
}

// plantOf is the plant of nodes that are linked as they should be.
func plantOf(nodes []impl.Node) (*plant, bool) {
	if len(nodes) == 0 || len(nodes) > impl.NodeMax {
		return nil, false
	}
	var plants []*plant
	for i, n := range nodes {
		p := &plant{kind: n.Kind, text: n.Text, names: n.Names}
		for _, kid := range n.Kids {
			if kid < 0 || kid >= i || plants[kid] == nil {
				return nil, false
			}
			p.kids = append(p.kids, plants[kid])
			plants[kid] = nil
		}
		plants = append(plants, p)
	}
	all := plants[len(plants)-1]
	return all, sameNodes(nodesOf(all), nodes)
}

// growsSo says whether a node may be so, whatever its kids are.
func growsSo(p *plant) bool {
	kids, names := len(p.kids), len(p.names)
	noNames := names == 0 && p.text == ""
	switch p.kind {
	case impl.NodePipe:
		return kids == 0 && names == 0 && isRow(p.text)
	case impl.NodeNot:
		return kids == 1 && noNames
	case impl.NodeAnd, impl.NodeOr, impl.NodeWhile, impl.NodeUntil:
		return kids == 2 && noNames
	case impl.NodeList:
		return kids >= 2 && noNames
	case impl.NodeIf:
		return (kids == 2 || kids == 3) && noNames
	case impl.NodeFor:
		return kids == 1 && names >= 1 && impl.NameOk(p.text) && !slices.ContainsFunc(p.names, func(s string) bool { return !plainForm.MatchString(s) })
	case impl.NodeCase:
		return kids >= 1 && names == kids && p.text == "" && !slices.ContainsFunc(p.names, func(s string) bool { return !patternForm.MatchString(s) || s == "esac" })
	}
	return false
}

func isRow(s string) bool {
	tokens, at := impl.Lex(s)
	var texts []string
	for _, token := range tokens {
		texts = append(texts, token.Text)
	}
	return at < 0 && len(s) <= impl.PipeMax && strings.Join(texts, " ") == s && wrongAt("ROW", tokens, len(s)) < 0
}

func growsWell(p *plant) bool {
	return growsSo(p) && !slices.ContainsFunc(p.kids, func(kid *plant) bool { return !growsWell(kid) })
}

// checkNodes holds ScriptOk and ScriptPut against what the document says of nodes (P13).
func checkNodes(t *testing.T, nodes []impl.Node) bool {
	t.Helper()
	p, ok := plantOf(nodes)
	ok = ok && growsWell(p) && len(written(p)) <= impl.ScriptMax && deepOf(p) <= impl.DeepMax
	want := ""
	if ok {
		want = written(p)
	}
	if impl.ScriptOk(nodes) != ok || impl.ScriptPut(nodes) != want {
		t.Fatalf("%v: %v %q, not %v %q", nodes, impl.ScriptOk(nodes), impl.ScriptPut(nodes), ok, want)
	}
	if read, at := impl.ScriptGet(want); ok && (at != -1 || !sameNodes(read, nodes)) {
		t.Fatalf("%v: written %q, read %d %v", nodes, want, at, read)
	}
	return ok
}

// kidsOfEach is a script of each kind.
func kidsOfEach() []*plant {
	a, b, c := pipe("a"), pipe("b > c"), pipe("c | d")
	kids := []*plant{a, grown(impl.NodeNot, a), grown(impl.NodeAnd, a, b), grown(impl.NodeOr, a, b), grown(impl.NodeList, a, b), grown(impl.NodeIf, a, b), grown(impl.NodeIf, a, b, c), grown(impl.NodeWhile, a, b), grown(impl.NodeUntil, a, b)}
	kids = append(kids, &plant{kind: impl.NodeFor, text: "i", names: []string{"x", "y"}, kids: []*plant{a}})
	return append(kids, &plant{kind: impl.NodeCase, names: []string{"0", "*"}, kids: []*plant{a, b}})
}

// withKids is all scripts of each kind, each kid of which is of each kind.
func withKids(call func(p *plant)) {
	kids := kidsOfEach()
	for _, outer := range kids {
		for place := range outer.kids {
			for _, kid := range kids {
				p := *outer
				p.kids = slices.Clone(outer.kids)
				p.kids[place] = kid
				call(&p)
			}
		}
	}
}

func TestP13EachKid(t *testing.T) {
	some := 0
	withKids(func(p *plant) {
		some++
		if !checkNodes(t, nodesOf(p)) {
			t.Error(written(p))
		}
		askScript(t, written(p), p)
	})
	if some < 200 {
		t.Error(some)
	}
	for s, p := range map[string]*plant{
		"{ a; b; } && { a; b; }": grown(impl.NodeAnd, grown(impl.NodeList, pipe("a"), pipe("b")), grown(impl.NodeList, pipe("a"), pipe("b"))), "a && b || { a && b; }": grown(impl.NodeOr, grown(impl.NodeAnd, pipe("a"), pipe("b")), grown(impl.NodeAnd, pipe("a"), pipe("b"))),
		"! { a || b; }": grown(impl.NodeNot, grown(impl.NodeOr, pipe("a"), pipe("b"))), "{ a; b; }; c": grown(impl.NodeList, grown(impl.NodeList, pipe("a"), pipe("b")), pipe("c")), "if a && b; then a; b; fi": grown(impl.NodeIf, grown(impl.NodeAnd, pipe("a"), pipe("b")), grown(impl.NodeList, pipe("a"), pipe("b"))), "! { a; b; }": grown(impl.NodeNot, grown(impl.NodeList, pipe("a"), pipe("b"))),
	} {
		if put := impl.ScriptPut(nodesOf(p)); put != s {
			t.Errorf("%q, not %q", put, s)
		}
	}
}

func TestP13RandomNodes(t *testing.T) {
	t.Parallel()
	dice := newDice(13)
	fine := 0
	for range 5000 {
		nodes := nodesOf(randomPlant(dice, 1+dice.IntN(30)))
		if checkNodes(t, nodes) {
			fine++
		}
		for range 1 + dice.IntN(2) {
			nodes = spoilNodes(dice, nodes)
		}
		checkNodes(t, nodes)
	}
	if fine < 1000 {
		t.Error(fine)
	}
}

// spoilNodes changes nodes in one place.
func spoilNodes(dice *rand.Rand, nodes []impl.Node) []impl.Node {
	if len(nodes) == 0 {
		return nodes
	}
	at := dice.IntN(len(nodes))
	n := &nodes[at]
	switch dice.IntN(9) {
	case 0:
		n.Kind = dice.IntN(12)
	case 1:
		n.Text = []string{"", "a", "i", "a; b", "a  b", "if", "a #b", "x\n", "a && b"}[dice.IntN(9)]
	case 2:
		n.Names = append(n.Names, []string{"x", "", "a b", "esac", "*", "x;"}[dice.IntN(6)])
	case 3:
		n.Names = n.Names[:len(n.Names)/2]
	case 4:
		n.Kids = append(n.Kids, dice.IntN(len(nodes)+1)-1)
	case 5:
		if len(n.Kids) > 0 {
			n.Kids[dice.IntN(len(n.Kids))] += dice.IntN(5) - 2
		}
	case 6:
		slices.Reverse(n.Kids)
	case 7:
		nodes = slices.Delete(nodes, at, at+1)
	case 8:
		nodes = slices.Insert(nodes, at, impl.Node{Kind: impl.NodePipe, Text: "a"})
	}
	return nodes
}

func TestP13WrongNodes(t *testing.T) {
	pipes := func(many int, last impl.Node) []impl.Node {
		var nodes []impl.Node
		for range many {
			nodes = append(nodes, impl.Node{Kind: impl.NodePipe, Text: "a"})
		}
		return append(nodes, last)
	}
	for many := range 5 {
		for names := range 5 {
			for kind := -1; kind <= 11; kind++ {
				n := impl.Node{Kind: kind, Kids: countFrom(0, many)}
				for range names {
					n.Names = append(n.Names, "x")
				}
				checkNodes(t, pipes(many, n))
				n.Text = "i"
				checkNodes(t, pipes(many, n))
			}
		}
	}
	list := func(kids ...int) []impl.Node {
		return pipes(3, impl.Node{Kind: impl.NodeList, Kids: kids})
	}
	for _, nodes := range [][]impl.Node{nil, {}, {{}}, list(0, 1), list(1, 2), list(0, 1, 1), list(0, 1, 2, 2), list(0, 2, 1), list(2, 1, 0), list(0, 1, 3), list(0, 1, 4), list(0, 1, -1), list(-1, 0, 1, 2), list(0, 1, 2, 3), append(list(0, 1, 2), impl.Node{Kind: impl.NodePipe, Text: "a"}), {{Kind: impl.NodeNot, Kids: []int{0}}}, {{Kind: impl.NodeNot, Kids: []int{1}}, {Kind: impl.NodePipe, Text: "a"}}} {
		if checkNodes(t, nodes) {
			t.Error(nodes)
		}
	}
	if !checkNodes(t, list(0, 1, 2)) {
		t.Error("three in a list")
	}
}

func TestP13Texts(t *testing.T) {
	for _, s := range []string{"", " ", "a ", " a", "a  b", "a\n", "\na", "a;", "a; b", "a && b", "{ a; }", "! a", "if", "then", "a | if", "a|b", "a >b", "a>b", "> b", "a >", "a |", "| a", "# a", "a #", "a #b", "a#b", "'a", "a & b", "a (", "a\tb", "a \x00", "x y 'z  z' \"$x\" | b > c", "a | b | c", "}", "a }", "$((1 + 2))", "a ;; b", strings.Repeat("w", 60), strings.Repeat("w", 61), "while a; do b; done", strings.Repeat("w", 100000)} {
		checkNodes(t, nodesOf(pipe(s)))
		checkNodes(t, nodesOf(grown(impl.NodeList, pipe(s), pipe("b"))))
		checkNodes(t, nodesOf(&plant{kind: impl.NodeFor, text: s, names: []string{"x"}, kids: []*plant{pipe("a")}}))
		checkNodes(t, nodesOf(&plant{kind: impl.NodeFor, text: "i", names: []string{"x", s}, kids: []*plant{pipe("a")}}))
		checkNodes(t, nodesOf(&plant{kind: impl.NodeCase, names: []string{s}, kids: []*plant{pipe("a")}}))
	}
	for _, s := range []string{"x; do a; done; for i in x", "x do", "$x", "x*", "'x'", "esac", "in", "x) a;; y", "*", "a.b", strings.Repeat("a", 20), strings.Repeat("a", 21), strings.Repeat("*", 20), strings.Repeat("*", 21)} {
		checkNodes(t, nodesOf(&plant{kind: impl.NodeFor, text: "i", names: []string{s}, kids: []*plant{pipe("a")}}))
		checkNodes(t, nodesOf(&plant{kind: impl.NodeCase, names: []string{"0", s}, kids: []*plant{pipe("a"), pipe("b")}}))
		checkNodes(t, nodesOf(&plant{kind: impl.NodeFor, text: s, names: []string{"x"}, kids: []*plant{pipe("a")}}))
	}
	// Texts that are a script of other nodes are none of these.
	if impl.ScriptOk([]impl.Node{{Kind: impl.NodePipe, Text: "a; b"}}) || impl.ScriptOk([]impl.Node{{Kind: impl.NodePipe, Text: "a", Names: []string{""}}}) {
		t.Error("other nodes")
	}
}

func TestP13Limits(t *testing.T) {
	for size := 47; size <= 52; size++ {
		many := grown(impl.NodeList)
		nots := pipe("a")
		for range size - 1 {
			many.kids = append(many.kids, pipe("a"))
			nots = grown(impl.NodeNot, nots)
		}
		if checkNodes(t, nodesOf(many)) != (size <= impl.NodeMax) || checkNodes(t, nodesOf(nots)) != (size <= impl.NodeMax) {
			t.Error(size)
		}
	}
	for deep := 1; deep <= 10; deep++ {
		for _, kid := range kidsOfEach()[1:] {
			p := pipe("a")
			for range deep - 1 {
				outer := *kid
				outer.kids = slices.Clone(kid.kids)
				outer.kids[len(outer.kids)-1] = p
				p = &outer
			}
			checkNodes(t, nodesOf(p))
		}
	}
	word := strings.Repeat("w", 59)
	for size := 498; size <= 502; size++ {
		list := grown(impl.NodeList, pipe(word+" "+word), pipe(word+" "+word), pipe(word+" "+word), pipe(word+" "+word), pipe(strings.Repeat("w", size-4*len("; "+word+" "+word))))
		if checkNodes(t, nodesOf(list)) != (size <= impl.ScriptMax) {
			t.Error(size)
		}
	}
}

func TestP14Around(t *testing.T) {
	t.Parallel()
	dice := newDice(14)
	deep, fine := 0, 0
	check := func(s string) {
		nodes, at := impl.ScriptGet(s)
		if at >= 0 || len(s) > 470 {
			return
		}
		fine++
		for _, around := range [][2]string{{"\n", "\n"}, {"\n\n \n", "\n\n"}, {"# a 'b\n", "\n# c $"}, {" #\n\n", " #"}, {"\n# {\n", "\n \n# }\n\n"}, {"#\x00\n", "\n#\xff\n"}} {
			again, place := impl.ScriptGet(around[0] + s + around[1])
			if place != -1 || !sameNodes(nodes, again) {
				t.Fatalf("%q: %q: %d %v, not %v", s, around, place, again, nodes)
			}
		}
		for _, around := range [][2]string{{"{ ", "\n}"}, {"{\n", "\n}\n"}, {"{ # a\n", "\n# b\n} # c"}, {"{ {\n", "\n}\n}"}} {
			text := around[0] + s + around[1]
			again, place := impl.ScriptGet(text)
			if place == len(text) {
				deep++
			} else if place != -1 || !sameNodes(nodes, again) {
				t.Fatalf("%q: %q: %d %v, not %v", s, around, place, again, nodes)
			}
		}
	}
	withKids(func(p *plant) { check(written(p)) })
	if deep > 0 {
		t.Error("braces around what is not deep")
	}
	for range 3000 {
		w := &scribe{dice: dice}
		check(w.list(randomPlant(dice, 1+dice.IntN(20))) + w.ending())
	}
	if deep == 0 || fine < 1500 {
		t.Error(deep, fine)
	}
}

// roomy is a copy of nodes, all lists of which have room behind their ends that is marked.
func roomy(nodes []impl.Node) []impl.Node {
	list := make([]impl.Node, 0, len(nodes)+2)
	for _, n := range nodes {
		n.Names = append(slices.Clone(n.Names), "mark", "mark")[:len(n.Names)]
		n.Kids = append(slices.Clone(n.Kids), 77, 77)[:len(n.Kids)]
		list = append(list, n)
	}
	return append(list, impl.Node{Text: "mark"}, impl.Node{Text: "mark"})[:len(nodes)]
}

// withRoom is nodes with all that stands behind the ends of their lists.
func withRoom(nodes []impl.Node) []impl.Node {
	list := slices.Clone(nodes[:cap(nodes)])
	for i := range list {
		list[i].Names = slices.Clone(list[i].Names[:cap(list[i].Names)])
		list[i].Kids = slices.Clone(list[i].Kids[:cap(list[i].Kids)])
	}
	return list
}

func TestScriptWritesIntoNothing(t *testing.T) {
	withKids(func(p *plant) {
		nodes := roomy(nodesOf(p))
		before := withRoom(nodes)
		impl.ScriptOk(nodes)
		impl.ScriptPut(nodes)
		if !sameNodes(before, withRoom(nodes)) {
			t.Errorf("%v was written into, it was %v", withRoom(nodes), before)
		}
	})
}

func TestScriptAnswersAreNew(t *testing.T) {
	s := "for i in x y z; do a; done; case $? in 0) a;; 1) b;; 2) c; d;; esac; for j in u v w; do b; done"
	want, _ := impl.ScriptGet(s)
	want = withRoom(want[:len(want):len(want)])
	for i := range want {
		nodes, _ := impl.ScriptGet(s)
		// What is written into the lists of one node, and behind their ends, may be seen in no other one.
		names, kids := nodes[i].Names, nodes[i].Kids
		for j := range names[:cap(names)] {
			names[:cap(names)][j] = "mark"
		}
		for j := range kids[:cap(kids)] {
			kids[:cap(kids)][j] = 99
		}
		for j, n := range nodes {
			if j != i && (!slices.Equal(n.Names, want[j].Names[:len(n.Names)]) || !slices.Equal(n.Kids, want[j].Kids[:len(n.Kids)])) {
				t.Errorf("%d and %d share a list", i, j)
			}
		}
	}
	again, _ := impl.ScriptGet(s)
	if put := impl.ScriptPut(again); put != s {
		t.Errorf("%q", put)
	}
}
