package tests

import (
	"math/rand/v2"
	"runtime"
	"slices"
	"strconv"
	"strings"
	"testing"

	"loop.example/fugleman/impl"
)

func TestCodeLimits(t *testing.T) {
	kinds := []int{impl.OpRun, impl.OpFail, impl.OpFine, impl.OpGo, impl.OpNot, impl.OpSet, impl.OpCase, impl.OpZero, impl.OpEnd}
	if !slices.Equal(kinds, countFrom(1, 9)) || impl.CodeMax != 100 {
		t.Error("kinds of ops, limit of code")
	}
}

func runs(s string) impl.Op              { return impl.Op{Kind: impl.OpRun, Text: s} }
func leads(kind int, to int) impl.Op     { return impl.Op{Kind: kind, To: to} }
func does(kind int) impl.Op              { return impl.Op{Kind: kind} }
func sets(name string, s string) impl.Op { return impl.Op{Kind: impl.OpSet, Name: name, Text: s} }
func cases(pattern string, to int) impl.Op {
	return impl.Op{Kind: impl.OpCase, To: to, Text: pattern}
}

// each is a script that does a kid for some texts.
func each(name string, kid *plant, texts ...string) *plant {
	return &plant{kind: impl.NodeFor, text: name, names: texts, kids: []*plant{kid}}
}

// oneOf is a script that does one of its kids, by patterns.
func oneOf(kids []*plant, patterns ...string) *plant {
	return &plant{kind: impl.NodeCase, names: patterns, kids: kids}
}

func isLeading(kind int) bool {
	return kind == impl.OpFail || kind == impl.OpFine || kind == impl.OpGo || kind == impl.OpCase
}

// block is the ops of a plant, To telling how far it leads, so that blocks can be put one behind the other as they are.
func block(p *plant) []impl.Op {
	var kids [][]impl.Op
	for _, kid := range p.kids {
		kids = append(kids, block(kid))
	}
	// How a kid is left, if what was decided does not let it go on.
	way := impl.OpFail
	if p.kind == impl.NodeOr || p.kind == impl.NodeUntil {
		way = impl.OpFine
	}
	zero := []impl.Op{does(impl.OpZero)}
	switch p.kind {
	case impl.NodeNot:
		return append(kids[0], does(impl.OpNot))
	case impl.NodeAnd, impl.NodeOr:
		return slices.Concat(kids[0], []impl.Op{leads(way, 1+len(kids[1]))}, kids[1])
	case impl.NodeList:
		return slices.Concat(kids...)
	case impl.NodeIf:
		other := append(kids, zero)[2]
		return slices.Concat(kids[0], []impl.Op{leads(way, 2+len(kids[1]))}, kids[1], []impl.Op{leads(impl.OpGo, 1+len(other))}, other)
	case impl.NodeWhile, impl.NodeUntil:
		return slices.Concat(kids[0], []impl.Op{leads(way, 2+len(kids[1]))}, kids[1], []impl.Op{leads(impl.OpGo, -1-len(kids[0])-len(kids[1]))}, zero)
	case impl.NodeFor:
		var all []impl.Op
		for _, s := range p.names {
			all = slices.Concat(all, []impl.Op{sets(p.text, s)}, kids[0])
		}
		return all
	case impl.NodeCase:
		all := zero
		for i := len(kids) - 1; i >= 0; i-- {
			all = slices.Concat([]impl.Op{cases(p.names[i], 2+len(kids[i]))}, kids[i], []impl.Op{leads(impl.OpGo, 1+len(all))}, all)
		}
		return all
	}
	return []impl.Op{runs(p.text)}
}

// opsOf is the code of a plant, made without the program.
func opsOf(p *plant) []impl.Op {
	code := append(block(p), does(impl.OpEnd))
	for i := range code {
		if isLeading(code[i].Kind) {
			code[i].To += i
		}
	}
	return code
}

// manyOps is how many ops a plant has, or some number above the limit.
func manyOps(p *plant) int {
	many := 0
	for _, kid := range p.kids {
		many += manyOps(kid)
	}
	switch p.kind {
	case impl.NodePipe, impl.NodeNot, impl.NodeAnd, impl.NodeOr:
		many++
	case impl.NodeIf:
		many += 5 - len(p.kids)
	case impl.NodeWhile, impl.NodeUntil:
		many += 3
	case impl.NodeFor:
		many = len(p.names) * (1 + many)
	case impl.NodeCase:
		many += 2*len(p.kids) + 1
	}
	return min(many, 1000)
}

func hasKind(p *plant, kind int) bool {
	return p.kind == kind || slices.ContainsFunc(p.kids, func(kid *plant) bool { return hasKind(kid, kind) })
}

// checkRuns asks that code runs just what nodes have (P15).
func checkRuns(t *testing.T, nodes []impl.Node, code []impl.Op) {
	t.Helper()
	ran, has, loops := map[string]int{}, map[string]int{}, false
	for _, op := range code {
		if op.Kind == impl.OpRun {
			ran[op.Text]++
		}
	}
	for _, n := range nodes {
		if n.Kind == impl.NodePipe {
			has[n.Text]++
		}
		loops = loops || n.Kind == impl.NodeFor
	}
	for s, many := range ran {
		if has[s] == 0 || many < has[s] || !loops && many != has[s] {
			t.Errorf("%v: %q is run %d times, not %d: %v", nodes, s, many, has[s], code)
		}
	}
	if len(ran) != len(has) {
		t.Errorf("%v: not all is run: %v", nodes, code)
	}
}

// checkCode holds the code of a plant, which is a script or not, against what it must be (P15).
func checkCode(t *testing.T, p *plant) bool {
	t.Helper()
	nodes := nodesOf(p)
	code, ok := impl.CodeOf(nodes)
	want := impl.ScriptOk(nodes) && manyOps(p)+1 <= impl.CodeMax
	if ok != want || !ok && len(code) > 0 {
		t.Fatalf("%s: %v %v", written(p), ok, code)
	}
	if !ok {
		return false
	}
	if !slices.Equal(code, opsOf(p)) {
		t.Fatalf("%s: %v, not %v", written(p), code, opsOf(p))
	}
	if !impl.CodeOk(code) {
		t.Fatalf("%s: not ok: %v", written(p), code)
	}
	checkRuns(t, nodes, code)
	return true
}

func TestP15Kinds(t *testing.T) {
	fail, fine, on, not, zero, end := impl.OpFail, impl.OpFine, impl.OpGo, does(impl.OpNot), does(impl.OpZero), does(impl.OpEnd)
	a, b, c, d, e := runs("a"), runs("b"), runs("c"), runs("d"), runs("e")
	for s, want := range map[string][]impl.Op{
		"a":                                {a, end},
		"a b|c >d":                         {runs("a b | c > d"), end},
		"! a":                              {a, not, end},
		"! ! a":                            {a, not, not, end},
		"a && b":                           {a, leads(fail, 3), b, end},
		"a || b":                           {a, leads(fine, 3), b, end},
		"a && b || c":                      {a, leads(fail, 3), b, leads(fine, 5), c, end},
		"a || { b && c; }":                 {a, leads(fine, 5), b, leads(fail, 5), c, end},
		"a && ! b":                         {a, leads(fail, 4), b, not, end},
		"! { a && b; }":                    {a, leads(fail, 3), b, not, end},
		"a; b; c":                          {a, b, c, end},
		"{ a; b; } && c":                   {a, b, leads(fail, 4), c, end},
		"a || { b; c; }; d":                {a, leads(fine, 4), b, c, d, end},
		"if a; then b; fi":                 {a, leads(fail, 4), b, leads(on, 5), zero, end},
		"if a; then b; fi; c":              {a, leads(fail, 4), b, leads(on, 5), zero, c, end},
		"if a; then b; else c; fi":         {a, leads(fail, 4), b, leads(on, 5), c, end},
		"if a; then b; elif c; then d; fi": {a, leads(fail, 4), b, leads(on, 9), c, leads(fail, 8), d, leads(on, 9), zero, end},
		"if a; then b; elif c; then d; else e; fi":           {a, leads(fail, 4), b, leads(on, 9), c, leads(fail, 8), d, leads(on, 9), e, end},
		"if a; then if b; then c; fi; fi":                    {a, leads(fail, 8), b, leads(fail, 6), c, leads(on, 7), zero, leads(on, 9), zero, end},
		"while a; do b; done":                                {a, leads(fail, 4), b, leads(on, 0), zero, end},
		"until a; do b; done":                                {a, leads(fine, 4), b, leads(on, 0), zero, end},
		"a; while b; c; do d; e; done; a":                    {a, b, c, leads(fail, 7), d, e, leads(on, 1), zero, a, end},
		"while while a; do b; done; do c; done":              {a, leads(fail, 4), b, leads(on, 0), zero, leads(fail, 8), c, leads(on, 0), zero, end},
		"until a; do until b; do c; done; done":              {a, leads(fine, 8), b, leads(fine, 6), c, leads(on, 2), zero, leads(on, 0), zero, end},
		"for i in x; do a; done":                             {sets("i", "x"), a, end},
		"for i in x y x; do a; b; done; c":                   {sets("i", "x"), a, b, sets("i", "y"), a, b, sets("i", "x"), a, b, c, end},
		"for i in 1 2; do for j in 3 4; do a; done; done":    {sets("i", "1"), sets("j", "3"), a, sets("j", "4"), a, sets("i", "2"), sets("j", "3"), a, sets("j", "4"), a, end},
		"for i in x y; do a && b; done":                      {sets("i", "x"), a, leads(fail, 4), b, sets("i", "y"), a, leads(fail, 8), b, end},
		"for i in x y; do while a; do b; done; done":         {sets("i", "x"), a, leads(fail, 5), b, leads(on, 1), zero, sets("i", "y"), a, leads(fail, 11), b, leads(on, 7), zero, end},
		"case $? in 0) a;; esac":                             {cases("0", 3), a, leads(on, 4), zero, end},
		"a; case $? in 0) b;; 1*) c;; *) d; e;; esac; a":     {a, cases("0", 4), b, leads(on, 12), cases("1*", 7), c, leads(on, 12), cases("*", 11), d, e, leads(on, 12), zero, a, end},
		"case $? in 0) case $? in 1) a;; esac;; 2) b;; esac": {cases("0", 6), cases("1", 4), a, leads(on, 5), zero, leads(on, 10), cases("2", 9), b, leads(on, 10), zero, end},
		"case $? in 0) a;; esac && b":                        {cases("0", 3), a, leads(on, 4), zero, leads(fail, 6), b, end},
		"while case $? in 0) a;; esac; do b; done":           {cases("0", 3), a, leads(on, 4), zero, leads(fail, 7), b, leads(on, 0), zero, end},
	} {
		nodes, at := impl.ScriptGet(s)
		code, ok := impl.CodeOf(nodes)
		if at != -1 || !ok || !slices.Equal(code, want) || !impl.CodeOk(code) {
			t.Errorf("%q: %d %v %v, not %v", s, at, ok, code, want)
		}
		checkRuns(t, nodes, code)
	}
}

func TestP15EachKid(t *testing.T) {
	t.Parallel()
	dice := newDice(15)
	fine := 0
	withKids(func(p *plant) {
		if !checkCode(t, p) || !checkCode(t, grown(impl.NodeList, pipe("z"), p, pipe("z"))) {
			t.Error(written(p))
		}
		checkWay(t, dice, p)
	})
	for range 5000 {
		p := randomPlant(dice, 1+dice.IntN(20))
		if checkCode(t, p) {
			fine++
			checkWay(t, dice, p)
		}
	}
	if fine < 1000 {
		t.Error(fine)
	}
}

// wanderer does a script with decisions that are given, and tells what it does, until it is tired: loops that run nothing have no end.
type wanderer struct {
	decided []int
	told    []string
	last    int
	steps   int
}

func (w *wanderer) tired() bool {
	w.steps++
	return w.steps > 3000
}

func (w *wanderer) tell(s string) {
	w.told = append(w.told, s)
}

// run takes the next decision; false, if there is none.
func (w *wanderer) run(s string) bool {
	w.tell("run " + s)
	if len(w.decided) == 0 {
		return false
	}
	w.last, w.decided = w.decided[0], w.decided[1:]
	return true
}

// walk does a plant, as a shell would; false, if decisions are at their end.
func (w *wanderer) walk(p *plant) bool {
	if w.tired() {
		return false
	}
	switch p.kind {
	case impl.NodePipe:
		return w.run(p.text)
	case impl.NodeNot:
		ok := w.walk(p.kids[0])
		if w.last == 0 {
			w.last = 1
		} else {
			w.last = 0
		}
		return ok
	case impl.NodeAnd, impl.NodeOr:
		return w.walk(p.kids[0]) && ((w.last == 0) != (p.kind == impl.NodeAnd) || w.walk(p.kids[1]))
	case impl.NodeIf:
		return w.walkIf(p)
	case impl.NodeWhile, impl.NodeUntil:
		for w.walk(p.kids[0]) {
			if (w.last == 0) != (p.kind == impl.NodeWhile) {
				w.last = 0
				return true
			}
			if !w.walk(p.kids[1]) {
				return false
			}
		}
		return false
	case impl.NodeFor:
		for _, s := range p.names {
			w.tell("set " + p.text + "=" + s)
			if !w.walk(p.kids[0]) {
				return false
			}
		}
		return true
	case impl.NodeCase:
		for i, pattern := range p.names {
			if meetsPattern(pattern, strconv.Itoa(w.last)) {
				return w.walk(p.kids[i])
			}
		}
		w.last = 0
		return true
	}
	for _, kid := range p.kids {
		if !w.walk(kid) {
			return false
		}
	}
	return true
}

func (w *wanderer) walkIf(p *plant) bool {
	switch {
	case !w.walk(p.kids[0]):
		return false
	case w.last == 0:
		return w.walk(p.kids[1])
	case len(p.kids) == 3:
		return w.walk(p.kids[2])
	}
	w.last = 0
	return true
}

// follow does code, op by op, as the document tells of each; false, if decisions are at their end.
func (w *wanderer) follow(code []impl.Op) bool {
	for at := 0; code[at].Kind != impl.OpEnd; {
		op := code[at]
		at++
		if w.tired() {
			return false
		}
		switch op.Kind {
		case impl.OpRun:
			if !w.run(op.Text) {
				return false
			}
		case impl.OpSet:
			w.tell("set " + op.Name + "=" + op.Text)
		case impl.OpZero:
			w.last = 0
		case impl.OpNot:
			w.last = map[bool]int{true: 1, false: 0}[w.last == 0]
		}
		if op.Kind == impl.OpGo || op.Kind == impl.OpFail && w.last != 0 || op.Kind == impl.OpFine && w.last == 0 || op.Kind == impl.OpCase && !meetsPattern(op.Text, strconv.Itoa(w.last)) {
			at = op.To
		}
	}
	return true
}

// checkWay asks that code does what its script says, whatever is decided.
func checkWay(t *testing.T, dice *rand.Rand, p *plant) {
	t.Helper()
	code, _ := impl.CodeOf(nodesOf(p))
	for range 10 {
		var decided []int
		for range dice.IntN(30) {
			decided = append(decided, []int{0, 0, 0, 1, 2, 10, 127}[dice.IntN(7)])
		}
		walks, follows := &wanderer{decided: decided}, &wanderer{decided: decided}
		ended, ends := walks.walk(p), follows.follow(code)
		if walks.tired() || follows.tired() {
			many := min(len(walks.told), len(follows.told))
			walks.told, follows.told = walks.told[:many], follows.told[:many]
			ended, ends = false, false
		}
		if ends != ended || !slices.Equal(walks.told, follows.told) || ended && walks.last != follows.last {
			t.Fatalf("%s by %v: %v %d, not %v %d", written(p), decided, follows.told, follows.last, walks.told, walks.last)
		}
	}
}

// countedTexts is so many texts.
func countedTexts(many int) []string {
	var list []string
	for i := range many {
		list = append(list, strconv.Itoa(i))
	}
	return list
}

func TestP15Limit(t *testing.T) {
	a := pipe("a")
	for many := 44; many <= 51; many++ {
		loop := each("i", a, countedTexts(many)...)
		for _, p := range []*plant{loop, grown(impl.NodeList, loop, a), grown(impl.NodeList, a, loop, a), grown(impl.NodeNot, loop), grown(impl.NodeIf, a, loop), grown(impl.NodeWhile, loop, a), grown(impl.NodeList, loop, each("i", a, "x")), oneOf([]*plant{loop, a}, "0", "*")} {
			size := len(opsOf(p))
			if checkCode(t, p) != (size <= impl.CodeMax) {
				t.Error(written(p), size)
			}
		}
	}
	full := grown(impl.NodeList, each("i", a, countedTexts(49)...), a)
	more := grown(impl.NodeList, each("i", a, countedTexts(49)...), grown(impl.NodeNot, a))
	if len(opsOf(full)) != 100 || !checkCode(t, full) || len(opsOf(more)) != 101 || checkCode(t, more) {
		t.Error("the limit")
	}
	// Without a loop over texts.
	many := grown(impl.NodeList)
	for range 23 {
		many.kids = append(many.kids, oneOf([]*plant{a}, "0"))
	}
	if len(opsOf(many)) != 93 || len(written(many)) <= impl.ScriptMax || checkCode(t, many) {
		t.Error("a script that is too long")
	}
}

// Loops within loops would have more ops than can be written down.
func TestP15ManyLoops(t *testing.T) {
	for deep := 1; deep <= 7; deep++ {
		for _, many := range []int{2, 5, 12, 200 / deep} {
			p := pipe("a")
			for range deep {
				p = each("i", p, strings.Split(strings.Repeat("x ", many)+"x", " ")...)
			}
			if len(written(p)) <= impl.ScriptMax && !impl.ScriptOk(nodesOf(p)) {
				t.Error(written(p))
			}
			checkCode(t, p)
			checkCode(t, grown(impl.NodeAnd, p, oneOf([]*plant{grown(impl.NodeIf, p, pipe("b"))}, "*")))
		}
	}
}

// Whoever makes all ops of a script first, and counts them then, takes more room than there is.
func TestP15SmallRoom(t *testing.T) {
	p := pipe("a")
	for range 5 {
		p = each("i", p, strings.Split(strings.Repeat("x ", 12)+"x", " ")...)
	}
	nodes := nodesOf(p)
	if !impl.ScriptOk(nodes) {
		t.Fatal(written(p))
	}
	var before, after runtime.MemStats
	runtime.ReadMemStats(&before)
	code, ok := impl.CodeOf(nodes)
	runtime.ReadMemStats(&after)
	if took := after.TotalAlloc - before.TotalAlloc; ok || len(code) > 0 || took > 10_000_000 {
		t.Errorf("%v %d ops, %d bytes", ok, len(code), took)
	}
}

func TestP15NoScripts(t *testing.T) {
	for _, nodes := range [][]impl.Node{nil, {}, {{}}, {{Kind: impl.NodePipe}}, {{Kind: impl.NodePipe, Text: "a; b"}}, {{Kind: impl.NodePipe, Text: "a "}}, {{Kind: impl.NodeNot, Kids: []int{0}}}, {{Kind: impl.NodeNot, Kids: []int{1}}}, {{Kind: impl.NodeNot, Kids: []int{-1}}}, {{Kind: impl.NodeAnd}}, {{Kind: impl.NodeFor, Text: "i", Names: []string{"x"}}}, {{Kind: impl.NodeCase}}, {{Kind: 11}}, {{Kind: impl.NodePipe, Text: "a"}, {Kind: impl.NodePipe, Text: "b"}}, {{Kind: impl.NodePipe, Text: "a"}, {Kind: impl.NodeAnd, Kids: []int{0, 0}}}, {{Kind: impl.NodePipe, Text: "a"}, {Kind: impl.NodeFor, Text: "i", Kids: []int{0}}}, {{Kind: impl.NodePipe, Text: strings.Repeat("a", 61)}}} {
		if code, ok := impl.CodeOf(nodes); ok || len(code) > 0 {
			t.Errorf("%v: %v %v", nodes, code, ok)
		}
	}
	dice := newDice(150)
	wrong := 0
	for range 5000 {
		nodes := nodesOf(randomPlant(dice, 1+dice.IntN(12)))
		for range 1 + dice.IntN(2) {
			nodes = spoilNodes(dice, nodes)
		}
		code, ok := impl.CodeOf(nodes)
		if ok && !impl.ScriptOk(nodes) || ok != impl.CodeOk(code) || !ok && len(code) > 0 {
			t.Fatalf("%v: %v %v", nodes, code, ok)
		}
		if !ok {
			wrong++
		}
	}
	if wrong < 1000 {
		t.Error(wrong)
	}
}

// opFits says whether an op may be there, the last one or not, in code of so many.
func opFits(op impl.Op, isLast bool, many int) bool {
	led := op.To >= 0 && op.To < many
	parts := map[int]bool{
		impl.OpRun:  op.To == 0 && op.Name == "" && isRow(op.Text),
		impl.OpFail: led && op.Name == "" && op.Text == "",
		impl.OpSet:  op.To == 0 && nameForm.MatchString(op.Name) && plainForm.MatchString(op.Text),
		impl.OpCase: led && op.Name == "" && patternForm.MatchString(op.Text),
		impl.OpNot:  op.To == 0 && op.Name == "" && op.Text == "",
	}
	parts[impl.OpFine], parts[impl.OpGo], parts[impl.OpZero], parts[impl.OpEnd] = parts[impl.OpFail], parts[impl.OpFail], parts[impl.OpNot], parts[impl.OpNot]
	return parts[op.Kind] && isLast == (op.Kind == impl.OpEnd)
}

func checkCodeOk(t *testing.T, code []impl.Op) bool {
	t.Helper()
	want := len(code) >= 1 && len(code) <= impl.CodeMax
	for i, op := range code {
		want = want && opFits(op, i == len(code)-1, len(code))
	}
	if impl.CodeOk(code) != want {
		t.Fatalf("%v: %v", code, !want)
	}
	return want
}

// wrongOps is ops of all kinds, with parts of all kinds.
func wrongOps() []impl.Op {
	long := strings.Repeat("a", 20)
	var list []impl.Op
	for kind := -1; kind <= 11; kind++ {
		for _, to := range []int{-1, 0, 1, 2, 3, 1 << 40} {
			for _, name := range []string{"", "i", "1", "abcdef", "abcdefg", "a b"} {
				for _, s := range []string{"", "a", "a | b", "a  b", "a; b", "if", "esac", "1*", "*", "a*b c", long, long + "a", long[1:] + "*", long + "*", "a\n", "\x00"} {
					list = append(list, impl.Op{Kind: kind, To: to, Name: name, Text: s})
				}
			}
		}
	}
	return list
}

func TestP15CodeOk(t *testing.T) {
	t.Parallel()
	end := does(impl.OpEnd)
	fine := 0
	for _, op := range wrongOps() {
		for _, code := range [][]impl.Op{{op}, {op, end}, {op, runs("a"), end}, {runs("a"), op, end}, {runs("a"), op}, {end, op}, {op, op, end}} {
			if checkCodeOk(t, code) {
				fine++
			}
		}
	}
	if fine < 100 {
		t.Error(fine)
	}
	for _, code := range [][]impl.Op{nil, {}, {runs("a")}, {end, end}, {end, runs("a"), end}, {runs("a"), leads(impl.OpGo, 0)}} {
		if checkCodeOk(t, code) {
			t.Error(code)
		}
	}
	for many := 97; many <= 103; many++ {
		code := append(slices.Repeat([]impl.Op{does(impl.OpZero)}, many-1), end)
		if checkCodeOk(t, code) != (many <= impl.CodeMax) {
			t.Error(many)
		}
		code[0] = leads(impl.OpGo, many-1)
		if checkCodeOk(t, code) != (many <= impl.CodeMax) {
			t.Error(many, "with an op that leads to the last one")
		}
		code[0].To++
		checkCodeOk(t, code)
	}
	word := strings.Repeat("w", 60)
	for size := 158; size <= 162; size++ {
		row := word + " " + word + " " + strings.Repeat("w", size-122)
		if checkCodeOk(t, []impl.Op{runs(row), end}) != (size <= impl.PipeMax) || impl.PipeOk(row) != (size <= impl.PipeMax) {
			t.Error(size)
		}
	}
}

func TestP15SpoiltCode(t *testing.T) {
	t.Parallel()
	dice := newDice(151)
	ops := wrongOps()
	for range 3000 {
		code := opsOf(randomPlant(dice, 1+dice.IntN(6)))
		at := dice.IntN(len(code))
		switch dice.IntN(6) {
		case 0:
			code[at] = ops[dice.IntN(len(ops))]
		case 1:
			code[at].Kind = dice.IntN(11)
		case 2:
			code[at].To = dice.IntN(len(code)+2) - 1
		case 3:
			code[at].Name = "i"
		case 4:
			code[at].Text = []string{"", "a", "a ", "*"}[dice.IntN(4)]
		case 5:
			code = slices.Delete(code, at, at+1)
		}
		checkCodeOk(t, code)
	}
}

// checkPipe asks that commands in a row are a script of one node (P16).
func checkPipe(t *testing.T, s string) bool {
	t.Helper()
	nodes, at := impl.ScriptGet(s)
	want := at == -1 && len(nodes) == 1 && nodes[0].Kind == impl.NodePipe && nodes[0].Text == s && impl.ScriptPut(nodes) == s
	if impl.PipeOk(s) != want || want != isRow(s) {
		t.Fatalf("%q: %v, %d %v, %v", s, impl.PipeOk(s), at, nodes, isRow(s))
	}
	return want
}

func TestP16Pipes(t *testing.T) {
	for _, s := range []string{"a", "a b", "a | b", "a | b | c", "> b", "a > b", "a >> b < c", "> b | < c", "> if", "a if then }", "'if'", `\if`, "'a  b'", `"a | b"`, "a#b", `\#`, "$((1 + 2))", "$x $? ${x}y", "x=1", "x=1 y='2 3' z", "a 'b;c' \\;", "~", "}}", "iffy"} {
		if !checkPipe(t, s) {
			t.Errorf("%q", s)
		}
	}
	for _, s := range []string{"", " ", "\n", "#", "# a", " a", "a ", "a  b", "a\n", "\na", "a;", "a; b", "a #", "a #b", "a|b", "a |b", "a| b", "a | ", "a |", "| a", "a || b", "a && b", "a & b", "a >b", "a> b", "a>b", "a >", "a > > b", "a >>  b", "! a", "{ a; }", "{", "}", "if", "then", "in", "a | if", "a | }", "if a; then b; fi", "while a; do b; done", "case $? in 0) a;; esac", "(a)", "a)", "a ;; b", "'a", "a \"b", "a $1", "a $", "a \\", "a\tb", "a \x00", "a \x7f", "é", strings.Repeat("w", 61), strings.Repeat("w ", 81) + "w", strings.Repeat("a", 100000)} {
		if checkPipe(t, s) {
			t.Errorf("%q", s)
		}
	}
	if !checkPipe(t, strings.Repeat("w ", 79)+"ww") || checkPipe(t, strings.Repeat("w ", 80)+"w") || !checkPipe(t, strings.Repeat("w", 60)) {
		t.Error("limits")
	}
}

func TestP16AllTexts(t *testing.T) {
	t.Parallel()
	fine := 0
	check := func(s string) {
		if checkPipe(t, s) {
			fine++
		}
	}
	eachText(allBytes(), 1, check)
	eachText("a> |#;", 4, check)
	eachText("i f'&\n", 4, check)
	dice := newDice(16)
	for range 4000 {
		s := randomRow(dice)
		check(s)
		check(spoil(dice, s, "a |<>;&'\"\\$#\n{}!"))
		check(randomRow(dice) + []string{" ", " | ", " > ", "  ", "; ", "|", " >> ", " && "}[dice.IntN(8)] + s)
	}
	if fine < 4000 {
		t.Error(fine)
	}
}

func TestCodeWritesIntoNothing(t *testing.T) {
	withKids(func(p *plant) {
		nodes := roomy(nodesOf(p))
		before := withRoom(nodes)
		code, _ := impl.CodeOf(nodes)
		if !sameNodes(before, withRoom(nodes)) {
			t.Errorf("%v was written into, it was %v", withRoom(nodes), before)
		}
		given, untouched := guarded(t, code, runs("mark"))
		impl.CodeOk(given)
		untouched("CodeOk")
	})
}

func TestCodeAnswersAreNew(t *testing.T) {
	p := grown(impl.NodeList, each("i", pipe("a"), "x", "y"), oneOf([]*plant{pipe("a"), pipe("b")}, "0", "*"))
	nodes := nodesOf(p)
	first, _ := impl.CodeOf(nodes)
	for i := range first[:cap(first)] {
		first[:cap(first)][i] = runs("mark")
	}
	if !sameNodes(nodes, nodesOf(p)) || !checkCode(t, p) {
		t.Error("an answer is shared")
	}
}
