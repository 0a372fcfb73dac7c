package tests

import (
	"math/rand/v2"
	"slices"
	"strings"

	"loop.example/fugleman/impl"
)

// plant is a script as a tree, of which nodes and texts are made without the program.
type plant struct {
	kind  int
	text  string
	names []string
	kids  []*plant
}

func pipe(s string) *plant { return &plant{kind: impl.NodePipe, text: s} }

func grown(kind int, kids ...*plant) *plant { return &plant{kind: kind, kids: kids} }

// nodesOf is the nodes of a plant, numbered as they end.
func nodesOf(p *plant) []impl.Node {
	var nodes []impl.Node
	var add func(p *plant) int
	add = func(p *plant) int {
		n := impl.Node{Kind: p.kind, Text: p.text, Names: slices.Clone(p.names)}
		for _, kid := range p.kids {
			n.Kids = append(n.Kids, add(kid))
		}
		nodes = append(nodes, n)
		return len(nodes) - 1
	}
	add(p)
	return nodes
}

func isAndOr(p *plant) bool {
	return p.kind == impl.NodeAnd || p.kind == impl.NodeOr
}

// braced says which kids are written between braces.
func braced(p *plant, i int) bool {
	kid := p.kids[i]
	if kid.kind == impl.NodeList {
		return p.kind == impl.NodeNot || isAndOr(p) || p.kind == impl.NodeList
	}
	return isAndOr(kid) && (p.kind == impl.NodeNot || isAndOr(p) && i == 1)
}

// written is how a plant is written.
func written(p *plant) string {
	var kids []any
	for i, kid := range p.kids {
		s := written(kid)
		if braced(p, i) {
			s = "{ " + s + "; }"
		}
		kids = append(kids, s)
	}
	forms := map[int]string{
		impl.NodePipe: p.text, impl.NodeNot: "! %", impl.NodeAnd: "% && %", impl.NodeOr: "% || %",
		impl.NodeList: strings.TrimSuffix(strings.Repeat("%; ", len(p.kids)), "; "),
		impl.NodeIf:   "if %; then %; fi", impl.NodeWhile: "while %; do %; done", impl.NodeUntil: "until %; do %; done",
		impl.NodeFor:  "for " + p.text + " in " + strings.Join(p.names, " ") + "; do %; done",
		impl.NodeCase: "case $? in " + strings.Join(p.names, ") %;; ") + ") %;; esac",
	}
	form := forms[p.kind]
	if len(kids) == 3 && p.kind == impl.NodeIf {
		form = "if %; then %; else %; fi"
	}
	if len(kids) == 0 {
		return form
	}
	pieces := strings.Split(form, "%")
	s := pieces[0]
	for i, kid := range kids {
		s += kid.(string) + pieces[i+1]
	}
	return s
}

// deepOf is how many lists are within each other, as a plant is written, it being one of them.
func deepOf(p *plant) int {
	return 1 + deepWithin(p)
}

func deepWithin(p *plant) int {
	deep := 0
	for i, kid := range p.kids {
		if p.kind >= impl.NodeIf || braced(p, i) {
			deep = max(deep, deepOf(kid))
		} else {
			deep = max(deep, deepWithin(kid))
		}
	}
	return deep
}

// firstWords may begin a command, otherWords stand behind them.
var (
	firstWords = strings.Fields(`a b echo x=1 '' 'if' "q" $x $? $((1+2)) iffy }} !a [ a#`)
	otherWords = strings.Fields(`a if then } { ! done esac in '#' \; "$x" a*b ${x}y 1`)
)

// randomRow is commands in a row.
func randomRow(dice *rand.Rand) string {
	var row []string
	for range 1 + dice.IntN(3)*dice.IntN(2) {
		row = append(row, "|")
		if dice.IntN(5) > 0 {
			row = append(row, firstWords[dice.IntN(len(firstWords))])
		} else {
			row = append(row, ">", otherWords[dice.IntN(len(otherWords))])
		}
		for range dice.IntN(4) * dice.IntN(2) {
			if dice.IntN(3) == 0 {
				row = append(row, []string{"<", ">", ">>"}[dice.IntN(3)])
			}
			row = append(row, otherWords[dice.IntN(len(otherWords))])
		}
	}
	return strings.Join(row[1:], " ")
}

// randomPlant is a script of about so many commands.
func randomPlant(dice *rand.Rand, size int) *plant {
	if size <= 1 {
		return pipe(randomRow(dice))
	}
	p := &plant{kind: impl.NodeNot + dice.IntN(impl.NodeCase-impl.NodeNot+1)}
	many := 2
	switch p.kind {
	case impl.NodeNot:
		many = 1
	case impl.NodeList:
		many = 2 + dice.IntN(3)
	case impl.NodeIf:
		many = 2 + dice.IntN(2)
	case impl.NodeFor:
		many = 1
		p.text = []string{"i", "in", "do", "abcdef", "_1"}[dice.IntN(5)]
		for range 1 + dice.IntN(3) {
			p.names = append(p.names, []string{"x", "do", "in", "a.b/c-d_", "1", "a2345678901234567890"}[dice.IntN(6)])
		}
	case impl.NodeCase:
		many = 1 + dice.IntN(3)
		for range many {
			p.names = append(p.names, []string{"0", "1*", "*", "if", "fi", "***", "a2345678901234567.*-"}[dice.IntN(7)])
		}
	}
	for range many {
		p.kids = append(p.kids, randomPlant(dice, (size-1)/many+dice.IntN(2)))
	}
	return p
}

// scribe writes a plant with blanks, newlines, remarks and braces where they may stand.
type scribe struct {
	dice    *rand.Rand
	open    int
	deepest int
}

func (w *scribe) often() bool {
	return w.dice.IntN(4) == 0
}

func (w *scribe) gap() string {
	return strings.Repeat(" ", 1+w.dice.IntN(2)*w.dice.IntN(2))
}

// newlines is one or more.
func (w *scribe) newlines() string {
	s := ""
	for s == "" || w.often() {
		if w.often() {
			s += " #" + randomText(w.dice, "a;'\"$& }\t", 3)
		}
		s += "\n" + blanks(w.dice)
	}
	return s
}

func (w *scribe) perhaps() string {
	if w.often() {
		return w.newlines()
	}
	return ""
}

func (w *scribe) parted() string {
	if w.often() {
		return w.newlines()
	}
	return blanks(w.dice) + ";" + w.gap() + w.perhaps()
}

// list writes what a word, `;;` or the end follows.
func (w *scribe) list(p *plant) string {
	w.open++
	w.deepest = max(w.deepest, w.open)
	items := []*plant{p}
	if p.kind == impl.NodeList {
		items = p.kids
	}
	s := w.perhaps()
	for i, item := range items {
		if i > 0 {
			s += w.parted()
		}
		s += w.item(item)
	}
	w.open--
	return s
}

// closed writes a list that a word follows.
func (w *scribe) closed(p *plant) string {
	s := w.list(p)
	if strings.HasSuffix(s, " }") && w.dice.IntN(2) == 0 && p.kind >= impl.NodeIf {
		return s + w.gap()
	}
	return s + w.parted()
}

func (w *scribe) item(p *plant) string {
	if !isAndOr(p) || w.often() {
		return w.command(p)
	}
	sign := "&&"
	if p.kind == impl.NodeOr {
		sign = "||"
	}
	left := w.item(p.kids[0])
	if strings.HasSuffix(left, "}") {
		left += " "
	}
	return left + blanks(w.dice) + sign + blanks(w.dice) + w.perhaps() + w.command(p.kids[1])
}

func (w *scribe) command(p *plant) string {
	switch {
	case isAndOr(p) || p.kind == impl.NodeList || w.often() && w.often():
		return "{" + w.gap() + w.closed(p) + "}"
	case p.kind == impl.NodePipe:
		return w.row(p.text)
	case p.kind == impl.NodeNot:
		return "!" + w.gap() + w.command(p.kids[0])
	case p.kind == impl.NodeIf:
		return "if" + w.choice(p)
	case p.kind == impl.NodeWhile:
		return "while" + w.gap() + w.closed(p.kids[0]) + w.body(p.kids[1])
	case p.kind == impl.NodeUntil:
		return "until" + w.gap() + w.closed(p.kids[0]) + w.body(p.kids[1])
	case p.kind == impl.NodeFor:
		s := "for" + w.gap() + p.text + w.gap() + "in"
		for _, name := range p.names {
			s += w.gap() + name
		}
		return s + w.parted() + w.body(p.kids[0])
	}
	s := "case" + w.gap() + "$?" + w.gap() + "in" + w.gap() + w.perhaps()
	for i, name := range p.names {
		s += name + blanks(w.dice) + ")" + w.list(p.kids[i]) + w.ending() + ";;" + blanks(w.dice) + w.perhaps()
	}
	return s + "esac"
}

// ending is what may stand at the end of a list that a sign follows.
func (w *scribe) ending() string {
	if w.often() {
		return w.parted()
	}
	return " "
}

func (w *scribe) body(p *plant) string {
	return "do" + w.gap() + w.closed(p) + "done"
}

func (w *scribe) choice(p *plant) string {
	s := w.gap() + w.closed(p.kids[0]) + "then" + w.gap() + w.closed(p.kids[1])
	switch {
	case len(p.kids) == 2:
		return s + "fi"
	case p.kids[2].kind == impl.NodeIf && w.dice.IntN(4) > 0:
		w.open++
		s += "elif" + w.choice(p.kids[2])
		w.open--
		return s
	}
	return s + "else" + w.gap() + w.closed(p.kids[2]) + "fi"
}

// row writes commands in a row with no more blanks than are needed, or more.
func (w *scribe) row(text string) string {
	tokens, _ := impl.Lex(text)
	s := ""
	for i, token := range tokens {
		gap := blanks(w.dice)
		if i > 0 && gap == "" && (token.Kind == impl.TokWord && tokens[i-1].Kind == impl.TokWord) {
			gap = " "
		}
		if i > 0 {
			s += gap
		}
		s += token.Text
	}
	return s
}
