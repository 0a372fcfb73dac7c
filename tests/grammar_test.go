package tests

import (
	"regexp"
	"slices"
	"strings"

	"loop.example/fugleman/impl"
)

// grammar is what the document says of scripts, as rules: a part that has no rule of its own is a word or a sign.
// A list of which a word must follow is CLOSED: it may not end with words, as these would take it for one of them.
func grammar() map[string][]string {
	return map[string][]string{
		"LIST":     {"LINES ITEMS"},
		"ITEMS":    {"ITEM", "ITEM PARTED", "ITEM PARTED ITEMS"},
		"CLOSED":   {"LINES CITEMS"},
		"CITEMS":   {"ITEM PARTED", "CITEM", "ITEM PARTED CITEMS"},
		"LINES":    {"", "newline LINES"},
		"PARTED":   {"; LINES", "newline LINES"},
		"ITEM":     {"COMMAND", "ITEM SIGN LINES COMMAND"},
		"CITEM":    {"CCOMMAND", "ITEM SIGN LINES CCOMMAND"},
		"SIGN":     {"&&", "||"},
		"COMMAND":  {"COMPOUND", "ROW", "! COMMAND"},
		"CCOMMAND": {"COMPOUND", "! CCOMMAND"},
		"COMPOUND": {"{ CLOSED }", "if CLOSED then CLOSED IFEND", "while CLOSED BODY", "until CLOSED BODY", "for name in PLAINS PARTED BODY", "case $? in LINES CASES esac"},
		"IFEND":    {"fi", "else CLOSED fi", "elif CLOSED then CLOSED IFEND"},
		"BODY":     {"do CLOSED done"},
		"PLAINS":   {"plain", "PLAINS plain"},
		"CASES":    {"CASE", "CASES CASE"},
		"CASE":     {"pattern ) LIST ;; LINES"},
		"ROW":      {"SIMPLE", "ROW | SIMPLE"},
		"SIMPLE":   {"first", "FILE", "SIMPLE word", "SIMPLE FILE"},
		"FILE":     {"< word", "> word", ">> word"},
	}
}

var (
	plainForm   = regexp.MustCompile(`^[A-Za-z0-9._/-]{1,20}$`)
	patternForm = regexp.MustCompile(`^[A-Za-z0-9._/*-]{1,20}$`)
)

func isReserved(s string) bool {
	return slices.Contains(strings.Fields("if then elif else fi while until do done for in case esac { } !"), s)
}

// meets says whether a word or sign is what a rule asks for.
func meets(part string, token impl.Token) bool {
	s, isWord := token.Text, token.Kind == impl.TokWord
	switch part {
	case "newline":
		return s == "\n"
	case "word":
		return isWord
	case "first":
		return isWord && !isReserved(s)
	case "name":
		return isWord && impl.NameOk(s)
	case "plain":
		return isWord && plainForm.MatchString(s)
	case "pattern":
		return isWord && patternForm.MatchString(s) && s != "esac"
	}
	return s == part
}

// step is how far a rule was met, and from where on.
type step struct {
	rule int
	dot  int
	from int
}

// chart finds, by following all rules at once, the first word or sign with which nothing goes on.
type chart struct {
	left  []string
	right [][]string
	sets  [][]step
}

// newChart begins with all that the goal may begin with.
func newChart(goal string) *chart {
	c := &chart{}
	for left, rights := range grammar() {
		for _, right := range rights {
			c.left = append(c.left, left)
			c.right = append(c.right, strings.Fields(right))
		}
	}
	c.left = append(c.left, "")
	c.right = append(c.right, []string{goal})
	c.sets = [][]step{{{rule: len(c.left) - 1}}}
	c.close()
	return c
}

// close adds what follows from the last set, until nothing does.
func (c *chart) close() {
	at := len(c.sets) - 1
	for many := -1; many != len(c.sets[at]); {
		many = len(c.sets[at])
		for i := 0; i < len(c.sets[at]); i++ {
			s := c.sets[at][i]
			if s.dot < len(c.right[s.rule]) {
				c.predict(at, c.right[s.rule][s.dot])
			} else {
				c.complete(at, s)
			}
		}
	}
}

func (c *chart) add(at int, s step) {
	if !slices.Contains(c.sets[at], s) {
		c.sets[at] = append(c.sets[at], s)
	}
}

func (c *chart) predict(at int, part string) {
	for rule, left := range c.left {
		if left == part {
			c.add(at, step{rule: rule, from: at})
		}
	}
}

func (c *chart) complete(at int, done step) {
	for i := 0; i < len(c.sets[done.from]); i++ {
		s := c.sets[done.from][i]
		if s.dot < len(c.right[s.rule]) && c.right[s.rule][s.dot] == c.left[done.rule] {
			c.add(at, step{rule: s.rule, dot: s.dot + 1, from: s.from})
		}
	}
}

// push goes on with a word or sign, and says whether anything does.
func (c *chart) push(token impl.Token) bool {
	var set []step
	for _, s := range c.sets[len(c.sets)-1] {
		if s.dot < len(c.right[s.rule]) && meets(c.right[s.rule][s.dot], token) {
			set = append(set, step{rule: s.rule, dot: s.dot + 1, from: s.from})
		}
	}
	c.sets = append(c.sets, set)
	c.close()
	return len(set) > 0
}

func (c *chart) pop() {
	c.sets = c.sets[:len(c.sets)-1]
}

// whole says whether it may end here.
func (c *chart) whole() bool {
	return slices.Contains(c.sets[len(c.sets)-1], step{rule: len(c.left) - 1, dot: 1})
}

// wrongAt is the place of the first word or sign with which nothing goes on, the size if more must follow, or -1.
func wrongAt(goal string, tokens []impl.Token, size int) int {
	c := newChart(goal)
	for _, token := range tokens {
		if !c.push(token) {
			return token.At
		}
	}
	if !c.whole() {
		return size
	}
	return -1
}
