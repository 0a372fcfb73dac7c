package tests

import (
	"math/rand/v2"
	"regexp"
	"strconv"
	"strings"
	"testing"

	"loop.example/fugleman/impl"
)

func TestMathLimits(t *testing.T) {
	if impl.VarName != 6 || impl.MathDeep != 6 || impl.MathLong != 60 || impl.MathMax != 999999 {
		t.Error("limits of sums")
	}
	if impl.MathFine != 0 || impl.MathForm != 1 || impl.MathZero != 2 || impl.MathOver != 3 || impl.MathText != 4 {
		t.Error("codes of sums")
	}
}

func TestNames(t *testing.T) {
	for _, s := range []string{"a", "Z", "_", "__", "a1", "_9", "abcdef", "A_9zZ0"} {
		if !impl.NameOk(s) {
			t.Errorf("%q", s)
		}
	}
	for _, s := range []string{"", "1", "9a", "abcdefg", "a b", " a", "a ", "a-b", "a\n", "é", "\xff", "\x00", "a.b", strings.Repeat("a", 1000)} {
		if impl.NameOk(s) {
			t.Errorf("%q", s)
		}
	}
	form := regexp.MustCompile(`^[A-Za-z_][A-Za-z0-9_]{0,5}$`)
	eachText(allBytes(), 2, func(s string) {
		if impl.NameOk(s) != form.MatchString(s) {
			t.Errorf("%q", s)
		}
	})
}

// vars is what names say in these tests.
func vars() []impl.Var {
	return []impl.Var{
		{Name: "one", Text: "1"}, {Name: "neg", Text: "-7"}, {Name: "max", Text: "999999"}, {Name: "low", Text: "-999999"}, {Name: "zero", Text: "0"},
		{Name: "none", Text: ""}, {Name: "bad", Text: "word"}, {Name: "one", Text: "2"}, {Name: "bad", Text: "3"}, {Name: "none", Text: "4"},
	}
}

// checkSum runs a sum, and asks what holds of all of them (P5).
func checkSum(t *testing.T, s string) (int, int) {
	t.Helper()
	given, untouched := guarded(t, vars(), impl.Var{Name: "mark", Text: "5"})
	value, code := impl.MathRun(s, given)
	untouched("MathRun")
	if value < -impl.MathMax || value > impl.MathMax || code < impl.MathFine || code > impl.MathText || code != impl.MathFine && value != 0 {
		t.Fatalf("%q: %d %d", s, value, code)
	}
	if impl.MathOk(s) != (code != impl.MathForm) {
		t.Fatalf("%q: MathOk is %v, the code %d", s, impl.MathOk(s), code)
	}
	return value, code
}

func askSum(t *testing.T, s string, value int, code int) {
	t.Helper()
	if v, c := checkSum(t, s); v != value || c != code {
		t.Errorf("%q: %d %d, not %d %d", s, v, c, value, code)
	}
}

func TestSums(t *testing.T) {
	for s, value := range map[string]int{
		"0": 0, "7": 7, "999999": 999999, "-999999": -999999, " 7 ": 7, "-7": -7, "- 7": -7, "--7": 7, "- - -7": -7, "-0": 0,
		"1+2": 3, "1 - 2": -1, "1--2": 3, "1+-2": -1, "1-- -2": -1, "2*-3": -6, "2 - 3 - 4": -5, "2-(3-4)": 3, "100/10/5": 2, "100/(10/5)": 50,
		"2+3*4": 14, "(2+3)*4": 20, "2*3+4": 10, "2*3%4": 2, "2*(3%4)": 6, "7/2*2": 6, "10-4/2": 8, "-2*3": -6, "-(2+3)": -5, "-(-(2))": 2,
		"7/2": 3, "-7/2": -3, "7/-2": -3, "-7/-2": 3, "7%2": 1, "-7%2": -1, "7%-2": 1, "-7%-2": -1, "-(7%2)": -1, "6%3": 0, "0/5": 0, "0%5": 0, "1/2": 0, "-1/2": 0,
		"999999-1+1": 999999, "999999*-1": -999999, "999999/-1": -999999, "((((((1))))))": 1, "(1)+(((2)))": 3, "( 1 + ( 2 ) ) * 3": 9,
	} {
		askSum(t, s, value, impl.MathFine)
	}
}

// P5: what is no sum has MathForm, whatever its numbers are.
func TestP5Form(t *testing.T) {
	for _, s := range []string{
		"", " ", "+", "-", "*", "+1", "1+", "1-", "1*", "1+*2", "1*/2", "1**2", "1 2", "1 a", "a b", "1a", "1_", "_1 1", "00", "01", "-01", "0x1", "1234567", "0000001", "abcdefg",
		"()", "(", ")", "(1", "1)", "((1)", "(1))", ")1(", "(1)(2)", "1(2)", "(1)2", "a(1)", "(1 2)", "(+)", "( )", "1,2", "1.5", "1e5", "$a", "a=1", "1<2", "1\t+2", "1\n", "\n1", "1;2", "é", "\xff", "1\x00", "1&2", "!1", "~1",
		"1/0 +", "1/0)", "(1/0", "bad 1", "bad + ", "999999+1 1", "999999*2*", "1/0 01",
	} {
		askSum(t, s, 0, impl.MathForm)
	}
}

// P5: each limit met exactly, and one more.
func TestP5Edges(t *testing.T) {
	askSum(t, strings.Repeat("(", impl.MathDeep)+"5"+strings.Repeat(")", impl.MathDeep), 5, impl.MathFine)
	askSum(t, strings.Repeat("(", impl.MathDeep+1)+"5"+strings.Repeat(")", impl.MathDeep+1), 0, impl.MathForm)
	askSum(t, "((((((1))))))+((((((2))))))", 3, impl.MathFine)
	askSum(t, "((((((1)+(2))))))", 3, impl.MathFine)
	askSum(t, "((((((1+(2)))))))", 0, impl.MathForm)
	askSum(t, "5"+strings.Repeat(" ", impl.MathLong-1), 5, impl.MathFine)
	askSum(t, "5"+strings.Repeat(" ", impl.MathLong), 0, impl.MathForm)
	askSum(t, strings.Repeat("-", impl.MathLong-1)+"5", -5, impl.MathFine)
	askSum(t, strings.Repeat("-", impl.MathLong)+"5", 0, impl.MathForm)
	askSum(t, strings.Repeat("1+", 29)+"10", 39, impl.MathFine)
	askSum(t, "999998+1", 999999, impl.MathFine)
	askSum(t, "999999+1", 0, impl.MathOver)
	askSum(t, "-999998-1", -999999, impl.MathFine)
	askSum(t, "-999999-1", 0, impl.MathOver)
	askSum(t, "333333*3", 999999, impl.MathFine)
	askSum(t, "500000*2", 0, impl.MathOver)
	askSum(t, "-500000*2", 0, impl.MathOver)
	askSum(t, "999999*999999", 0, impl.MathOver)
	askSum(t, "abcdef", 0, impl.MathFine)
	askSum(t, "5/0", 0, impl.MathZero)
	askSum(t, "5%0", 0, impl.MathZero)
	askSum(t, "0/0", 0, impl.MathZero)
	askSum(t, "5/(3-3)", 0, impl.MathZero)
}

// P5: the first that goes wrong counts, each part behind those that it takes, the left one first.
func TestP5FirstFault(t *testing.T) {
	for s, code := range map[string]int{
		"1/0 + bad":               impl.MathZero,
		"bad + 1/0":               impl.MathText,
		"999999+1 + bad":          impl.MathOver,
		"bad + (999999+1)":        impl.MathText,
		"999999+1/0":              impl.MathZero,
		"999999+1*bad":            impl.MathText,
		"999999*2/0":              impl.MathOver,
		"1/0*999999*2":            impl.MathZero,
		"999999*2*bad":            impl.MathOver,
		"(999999+1)/(1/0)":        impl.MathOver,
		"(1/0)/(999999+1)":        impl.MathZero,
		"1/bad":                   impl.MathText,
		"bad/0":                   impl.MathText,
		"1/(0*bad)":               impl.MathText,
		"-(1/0) - bad":            impl.MathZero,
		"-bad - 1/0":              impl.MathText,
		"999999+1-1":              impl.MathOver,
		"999999-1+1":              impl.MathFine,
		"999999*2/2":              impl.MathOver,
		"999999+(1-1)":            impl.MathFine,
		"0*(1/0)":                 impl.MathZero,
		"0*bad":                   impl.MathText,
		"1%0 + 1/0 + bad":         impl.MathZero,
		"5 - 999999*999999 + bad": impl.MathOver,
		"bad*(999999*999999)%0":   impl.MathText,
		"max+one+bad":             impl.MathOver,
		"low-one-bad":             impl.MathOver,
		"one/zero-bad":            impl.MathZero,
		"one/none-bad":            impl.MathZero,
		"one%nobody-bad":          impl.MathZero,
	} {
		if _, c := checkSum(t, s); c != code {
			t.Errorf("%q: %d, not %d", s, c, code)
		}
	}
}

// sumForm says by rewriting texts, not by reading them, whether a text is a sum.
func sumForm(s string) bool {
	open, most := 0, 0
	for _, c := range s {
		switch c {
		case '(':
			open++
			most = max(most, open)
		case ')':
			open--
		}
	}
	if len(s) > impl.MathLong || most > impl.MathDeep {
		return false
	}
	s = wordForm.ReplaceAllStringFunc(s, func(word string) string {
		if numberForm.MatchString(word) || nameForm.MatchString(word) {
			return "n"
		}
		return "?"
	})
	if blankForm.MatchString(s) {
		return false
	}
	s = strings.ReplaceAll(s, " ", "")
	for before := ""; before != s; {
		before = s
		s = innerForm.ReplaceAllString(s, "m")
	}
	return rowForm.MatchString(s)
}

var (
	wordForm   = regexp.MustCompile(`[A-Za-z0-9_]+`)
	numberForm = regexp.MustCompile(`^(0|[1-9][0-9]{0,5})$`)
	nameForm   = regexp.MustCompile(`^[A-Za-z_][A-Za-z0-9_]{0,5}$`)
	blankForm  = regexp.MustCompile(`n +n`)
	innerForm  = regexp.MustCompile(`\(-*[nm]([-+*/%]-*[nm])*\)`)
	rowForm    = regexp.MustCompile(`^-*[nm]([-+*/%]-*[nm])*$`)
)

// P5: a text is a sum just if its form is one.
func TestP5AllTexts(t *testing.T) {
	t.Parallel()
	check := func(s string) {
		if _, code := checkSum(t, s); (code != impl.MathForm) != sumForm(s) {
			t.Fatalf("%q: %d", s, code)
		}
	}
	eachText("01a+-*() ", 5, check)
	dice := newDice(5)
	for range 20000 {
		check(randomText(dice, "0129abz_()+-*/%  ", 12))
		check(randomText(dice, allBytes(), 6))
		check(spoil(dice, randomSum(dice, 4).text, "019az_()+-*/% .\xff"))
	}
	for _, s := range []string{strings.Repeat("(", 1000000), strings.Repeat("-", 1000000), strings.Repeat("1+", 100000) + "1", strings.Repeat("()", 30)} {
		check(s)
	}
}

// sum is a text, how its sign binds, and what it must come to.
type sum struct {
	text  string
	binds int
	value int
	code  int
}

func randomSum(dice *rand.Rand, deep int) sum {
	if deep == 0 || dice.IntN(4) == 0 {
		return randomSingle(dice)
	}
	if dice.IntN(6) == 0 {
		part := within(dice, randomSum(dice, deep-1), 3)
		return sum{text: "-" + blanks(dice) + part.text, binds: 3, value: -part.value, code: part.code}
	}
	sign := "+-*/%"[dice.IntN(5)]
	binds := 2
	if sign == '+' || sign == '-' {
		binds = 1
	}
	left := within(dice, randomSum(dice, deep-1), binds)
	right := within(dice, randomSum(dice, deep-1), binds+1)
	both := joined(sign, left, right)
	both.text = left.text + blanks(dice) + string(sign) + blanks(dice) + right.text
	both.binds = binds
	return both
}

func randomSingle(dice *rand.Rand) sum {
	known := []sum{
		{text: "one", value: 1}, {text: "neg", value: -7}, {text: "max", value: 999999}, {text: "low", value: -999999},
		{text: "zero"}, {text: "none"}, {text: "nobody"}, {text: "bad", code: impl.MathText},
	}
	single := known[dice.IntN(len(known))]
	if dice.IntN(4) > 0 {
		single.value, single.code = dice.IntN([]int{4, 100, 1000000}[dice.IntN(3)]), impl.MathFine
		single.text = strconv.Itoa(single.value)
	}
	single.binds = 4
	return single
}

// within puts a sum between parentheses, if it must be there to bind so, and sometimes though it need not.
func within(dice *rand.Rand, part sum, binds int) sum {
	if part.binds < binds || dice.IntN(8) == 0 {
		part.text = "(" + blanks(dice) + part.text + blanks(dice) + ")"
		part.binds = 4
	}
	return part
}

func blanks(dice *rand.Rand) string {
	return strings.Repeat(" ", max(0, dice.IntN(5)-3))
}

// joined is what two sums come to with a sign between; the first code counts.
func joined(sign byte, left sum, right sum) sum {
	if left.code != impl.MathFine {
		return sum{code: left.code}
	}
	if right.code != impl.MathFine {
		return sum{code: right.code}
	}
	value := 0
	switch {
	case sign == '+':
		value = left.value + right.value
	case sign == '-':
		value = left.value - right.value
	case sign == '*':
		value = left.value * right.value
	case right.value == 0:
		return sum{code: impl.MathZero}
	case sign == '/':
		value = left.value / right.value
	default:
		value = left.value % right.value
	}
	if value > impl.MathMax || value < -impl.MathMax {
		return sum{code: impl.MathOver}
	}
	return sum{value: value}
}

// P5 and P6: sums of all shapes come to what their parts do.
func TestP5RandomSums(t *testing.T) {
	t.Parallel()
	dice := newDice(6)
	seen := [5]int{}
	for range 50000 {
		s := randomSum(dice, 4)
		if !sumForm(s.text) {
			s.value, s.code = 0, impl.MathForm
		}
		seen[s.code]++
		askSum(t, s.text, s.value, s.code)
	}
	for code, many := range seen {
		if many < 100 {
			t.Error("too few sums with code", code)
		}
	}
}

// askJoined asks for a sum of two, unless it is too long or too deep.
func askJoined(t *testing.T, text string, want sum) int {
	t.Helper()
	if !sumForm(text) {
		askSum(t, text, 0, impl.MathForm)
		return 0
	}
	askSum(t, text, want.value, want.code)
	return 1
}

// P6: sums are put together as their numbers are.
func TestP6Together(t *testing.T) {
	t.Parallel()
	dice := newDice(7)
	asked, over := 0, 0
	for range 20000 {
		a, b := randomSum(dice, 2), randomSum(dice, 2)
		if !sumForm(a.text) || !sumForm(b.text) {
			continue
		}
		a.value, a.code = checkSum(t, a.text)
		b.value, b.code = checkSum(t, b.text)
		if joined('+', a, b).code == impl.MathOver && a.code == impl.MathFine && b.code == impl.MathFine {
			over++
		}
		asked += askJoined(t, "("+a.text+")+("+b.text+")", joined('+', a, b))
		asked += askJoined(t, "("+a.text+") - ("+b.text+")", joined('-', a, b))
		asked += askJoined(t, "- -("+a.text+")", a)
	}
	if asked < 10000 || over < 100 {
		t.Error("too few sums were asked for", asked, over)
	}
	askSum(t, "(999999)+(1)", 0, impl.MathOver)
	askSum(t, "(999999)+(0)", 999999, impl.MathFine)
	askSum(t, "(-999999) - (1)", 0, impl.MathOver)
	askSum(t, "(-999999) - (-1)", -999998, impl.MathFine)
	askSum(t, "- -(-999999)", -999999, impl.MathFine)
	askSum(t, "- -(1/0)", 0, impl.MathZero)
}

// P7: a name comes to the number that it says.
func TestP7Names(t *testing.T) {
	type says struct {
		text  string
		value int
		code  int
	}
	for _, c := range []says{
		{"", 0, 0}, {"0", 0, 0}, {"1", 1, 0}, {"-1", -1, 0}, {"10", 10, 0}, {"999999", 999999, 0}, {"-999999", -999999, 0}, {"100000", 100000, 0},
		{"-0", 0, 4}, {"-", 0, 4}, {"--1", 0, 4}, {"+1", 0, 4}, {"01", 0, 4}, {"-01", 0, 4}, {"00", 0, 4}, {"1000000", 0, 4}, {"-1000000", 0, 4}, {"0000001", 0, 4},
		{" 1", 0, 4}, {"1 ", 0, 4}, {"- 1", 0, 4}, {" ", 0, 4}, {"1 2", 0, 4}, {"1+1", 0, 4}, {"(1)", 0, 4}, {"x", 0, 4}, {"word", 0, 4}, {"1\n", 0, 4}, {"0x1", 0, 4}, {"1.0", 0, 4},
		{"\xff", 0, 4}, {"99999999999999999999", 0, 4}, {strings.Repeat("1", 1000), 0, 4},
	} {
		for _, name := range []string{"x", "_", "A9", "abcdef"} {
			given := []impl.Var{{Name: "y", Text: "5"}, {Name: name, Text: c.text}, {Name: name, Text: "8"}}
			for _, s := range []string{name, " " + name + " ", name + "*1", "1*" + name, "(" + name + ")", "- -" + name} {
				if value, code := impl.MathRun(s, given); value != c.value || code != c.code {
					t.Errorf("%q, saying %q: %d %d", s, c.text, value, code)
				}
			}
		}
	}
}

// P7: a name that is not there is 0; names are told apart by all of their bytes.
func TestP7NotThere(t *testing.T) {
	given := []impl.Var{{Name: "a", Text: "1"}, {Name: "B", Text: "2"}, {Name: "abc", Text: "word"}, {Name: "", Text: "3"}, {Name: "abcdefg", Text: "4"}, {Name: "1", Text: "5"}, {Name: "d ", Text: "6"}}
	for s, value := range map[string]int{"a": 1, "A": 0, "b": 0, "B": 2, "ab": 0, "aa": 0, "_a": 0, "abcdef": 0, "d": 0, "1": 1, "a+B+nobody": 3, "nobody*1": 0, "a1": 0} {
		if got, code := impl.MathRun(s, given); got != value || code != impl.MathFine {
			t.Errorf("%q: %d %d", s, got, code)
		}
		if got, code := impl.MathRun(s, nil); code != impl.MathFine || s != "1" && got != 0 {
			t.Errorf("%q without names: %d %d", s, got, code)
		}
	}
	if _, code := impl.MathRun("abcdefg", given); code != impl.MathForm {
		t.Error("a name that is too long", code)
	}
}
