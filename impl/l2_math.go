package impl

import "strings"

// Limits and codes of sums.
const (
	VarName  = 6
	MathDeep = 6
	MathLong = 60
	MathMax  = 999999
	MathFine = 0
	MathForm = 1
	MathZero = 2
	MathOver = 3
	MathText = 4
)

// Var is a name, and what it says.
type Var struct {
	Name string
	Text string
}

// NameOk says whether a text is a name.
func NameOk(s string) bool {
	return s != "" && len(s) <= VarName && leading(s, isNameByte) == s && !isFigure(s[0])
}

// MathOk says whether a text is a sum.
func MathOk(s string) bool {
	_, code := tryMath(&mathReader{text: s})
	return code == MathFine
}

// MathRun is what a sum comes to.
func MathRun(s string, vars []Var) (int, int) {
	// All of the form counts ahead of what goes wrong by numbers, wherever that stands.
	if !MathOk(s) {
		return 0, MathForm
	}
	return tryMath(&mathReader{text: s, vars: vars, reckons: true})
}

// mathFault is what a reader panics with: why a text comes to no number.
type mathFault struct {
	code int
}

// mathReader reads a sum from the left; unless it reckons, it looks at nothing but its form.
type mathReader struct {
	text    string
	at      int
	open    int
	vars    []Var
	reckons bool
}

// tryMath is the one place where what a reader panics with is caught.
func tryMath(r *mathReader) (value int, code int) {
	// Whatever else might go wrong in a reader must not pass for a sum.
	code = MathForm
	defer func() {
		if fault, ok := recover().(mathFault); ok {
			value, code = 0, fault.code
		}
	}()
	return r.all(), MathFine
}

func (r *mathReader) all() int {
	if len(r.text) > MathLong {
		panic(mathFault{MathForm})
	}
	value := r.sum()
	if r.at < len(r.text) {
		panic(mathFault{MathForm})
	}
	return value
}

func (r *mathReader) sum() int {
	return r.row(false, r.term)
}

func (r *mathReader) term() int {
	return r.row(true, r.signed)
}

// row reads parts with signs between that bind alike, and puts them together from the left.
func (r *mathReader) row(tight bool, part func() int) int {
	value := part()
	for {
		sign, ok := r.takeSign(tight)
		if !ok {
			return value
		}
		value = r.join(sign, value, part())
	}
}

func (r *mathReader) join(sign mathSign, left int, right int) int {
	if !r.reckons {
		return 0
	}
	value := sign.join(left, right)
	if value < -MathMax || value > MathMax {
		panic(mathFault{MathOver})
	}
	return value
}

func (r *mathReader) signed() int {
	factor := 1
	for r.take('-') {
		factor = -factor
	}
	return factor * r.single()
}

func (r *mathReader) single() int {
	if r.take('(') {
		return r.inner()
	}
	word := leading(r.text[r.at:], isNameByte)
	r.at += len(word)
	if num, ok := numberOf(word); ok {
		return num
	}
	if !NameOk(word) {
		panic(mathFault{MathForm})
	}
	return r.named(word)
}

// inner reads what stands behind a parenthesis that was taken, and the one that closes it.
func (r *mathReader) inner() int {
	r.open++
	if r.open > MathDeep {
		panic(mathFault{MathForm})
	}
	value := r.sum()
	if !r.take(')') {
		panic(mathFault{MathForm})
	}
	r.open--
	return value
}

func (r *mathReader) named(name string) int {
	text := textOf(r.vars, name)
	if !r.reckons || text == "" {
		return 0
	}
	num, ok := signedOf(text)
	if !ok {
		panic(mathFault{MathText})
	}
	return num
}

func (r *mathReader) takeSign(tight bool) (mathSign, bool) {
	for _, sign := range mathSigns() {
		if sign.tight == tight && r.take(sign.char) {
			return sign, true
		}
	}
	return mathSign{}, false
}

// take passes over blanks, whether the byte follows or not, so that whoever reads on behind it stands at no blank.
func (r *mathReader) take(char byte) bool {
	for r.at < len(r.text) && r.text[r.at] == ' ' {
		r.at++
	}
	if r.at == len(r.text) || r.text[r.at] != char {
		return false
	}
	r.at++
	return true
}

// mathSign is what stands between two parts: whether it binds tighter than others, and what it makes of them.
type mathSign struct {
	char  byte
	tight bool
	join  func(left int, right int) int
}

func mathSigns() [5]mathSign {
	return [5]mathSign{
		{'+', false, func(left int, right int) int { return left + right }},
		{'-', false, func(left int, right int) int { return left - right }},
		{'*', true, func(left int, right int) int { return left * right }},
		{'/', true, func(left int, right int) int { return left / notZero(right) }},
		{'%', true, func(left int, right int) int { return left % notZero(right) }},
	}
}

func notZero(num int) int {
	if num == 0 {
		panic(mathFault{MathZero})
	}
	return num
}

// textOf is what a name says: nothing, if it is not there.
func textOf(vars []Var, name string) string {
	for _, v := range vars {
		if v.Name == name {
			return v.Text
		}
	}
	return ""
}

// signedOf reads a number, ahead of which `-` may stand, if it is not 0.
func signedOf(s string) (int, bool) {
	figures, minus := strings.CutPrefix(s, "-")
	num, ok := numberOf(figures)
	if !minus || !ok {
		return num, ok
	}
	return -num, num != 0
}

func isNameByte(c byte) bool {
	return isSmall(c) || c >= 'A' && c <= 'Z' || isFigure(c) || c == '_'
}
