package tests

import (
	"math/rand/v2"
	"runtime"
	"slices"
	"strconv"
	"strings"
	"sync"
	"testing"

	"loop.example/fugleman/impl"
)

func TestMachLimits(t *testing.T) {
	if impl.InstMax != 12 || impl.GoMax != 300 {
		t.Error("limits of machines")
	}
}

func sameMach(a impl.Mach, b impl.Mach) bool {
	return a.Pc == b.Pc && a.Inst == b.Inst && a.Last == b.Last && sameBox(a.Box, b.Box) && slices.Equal(a.Outs, b.Outs) && slices.Equal(a.Stats, b.Stats)
}

func isNothing(m impl.Mach) bool {
	return sameMach(m, impl.Mach{})
}

// machFits says whether a machine is as the document asks.
func machFits(code []impl.Op, m impl.Mach) bool {
	if !impl.CodeOk(code) || m.Pc < 0 || m.Pc >= len(code) || m.Inst < 0 || m.Inst > 12 || m.Last < 0 || m.Last > 127 || !boxFits(m.Box) {
		return false
	}
	for _, out := range m.Outs {
		if !textForm.MatchString(out) {
			return false
		}
	}
	for _, stat := range m.Stats {
		if stat < 0 || stat > 127 {
			return false
		}
	}
	more := len(m.Stats) - m.Inst
	switch code[m.Pc].Kind {
	case impl.OpRun:
		return len(m.Outs) == len(m.Stats) && (more == 0 || more == 1 && m.Inst < 12)
	case impl.OpEnd:
		return len(m.Outs) == len(m.Stats) && more == 0
	}
	return false
}

// goneOn is a machine that went on.
func goneOn(code []impl.Op, m impl.Mach) impl.Mach {
	k := keeperOf(m.Box, 0)
	did := 0
	for code[m.Pc].Kind != impl.OpRun && code[m.Pc].Kind != impl.OpEnd {
		if did == 300 {
			m.Pc = len(code) - 1
			break
		}
		did++
		op := code[m.Pc]
		m.Pc++
		if op.Kind == impl.OpGo || op.Kind == impl.OpFail && m.Last > 0 || op.Kind == impl.OpFine && m.Last == 0 || op.Kind == impl.OpCase && !meetsPattern(op.Text, strconv.Itoa(m.Last)) {
			m.Pc = op.To
		}
		switch op.Kind {
		case impl.OpNot:
			m.Last = map[int]int{0: 1}[m.Last]
		case impl.OpZero:
			m.Last = 0
		case impl.OpSet:
			if _, there := k.vars[op.Name]; there || len(k.vars) < 6 {
				k.vars[op.Name] = op.Text
			}
		}
	}
	m.Box = k.box()
	return m
}

func standsAtEnd(code []impl.Op, m impl.Mach) bool {
	return code[m.Pc].Kind == impl.OpEnd || m.Inst == 12
}

// done is a machine that has one more of Outs and Stats.
func done(m impl.Mach, out string, stat int) impl.Mach {
	m.Outs = append(slices.Clone(m.Outs), out)
	m.Stats = append(slices.Clone(m.Stats), stat)
	return m
}

// ran is a machine that did what runs next.
func ran(code []impl.Op, m impl.Mach) impl.Mach {
	box, told, status := expectRun(m.Box, m.Last, code[m.Pc].Text)
	m.Box = box
	return done(m, told, status)
}

// decided is a machine that goes on by what was decided.
func decided(code []impl.Op, m impl.Mach, status int) impl.Mach {
	m.Last = status
	m.Inst++
	m.Pc++
	return goneOn(code, m)
}

// allDone is what a machine must be behind all decisions.
func allDone(code []impl.Op, list []int, cuts []int) impl.Mach {
	if !impl.CodeOk(code) || len(list) > 12 || slices.ContainsFunc(list, func(n int) bool { return n < 0 || n > 127 }) {
		return impl.Mach{}
	}
	m := goneOn(code, impl.Mach{})
	for !standsAtEnd(code, m) && m.Inst < len(list) {
		if slices.Contains(cuts, m.Inst) {
			m = done(m, "", 126)
		} else {
			m = ran(code, m)
		}
		m = decided(code, m, list[m.Inst])
	}
	return m
}

// guardedMach is a copy of a machine with room behind its lists, and a check that nothing was written there.
func guardedMach(t *testing.T, m impl.Mach) (impl.Mach, func(what string)) {
	t.Helper()
	box, boxUntouched := guardedBox(t, m.Box)
	outs, outsUntouched := guarded(t, m.Outs, "mark")
	stats, statsUntouched := guarded(t, m.Stats, 5)
	m.Box, m.Outs, m.Stats = box, outs, stats
	return m, func(what string) {
		t.Helper()
		boxUntouched(what)
		outsUntouched(what)
		statsUntouched(what)
	}
}

// checkNew holds a new machine against what it must be (P29).
func checkNew(t *testing.T, code []impl.Op) impl.Mach {
	t.Helper()
	given, untouched := guarded(t, code, runs("mark"))
	m := impl.MachNew(given)
	untouched("MachNew")
	if !impl.CodeOk(code) {
		if !isNothing(m) {
			t.Fatalf("%v: %v", code, m)
		}
		return m
	}
	if want := goneOn(code, impl.Mach{}); !sameMach(m, want) {
		t.Fatalf("%v: %v, not %v", code, m, want)
	}
	if !impl.MachOk(code, m) || m.Inst != 0 || len(m.Stats)+len(m.Outs)+len(m.Box.Files) > 0 || impl.MachEnd(code, m) != (code[m.Pc].Kind == impl.OpEnd) {
		t.Fatalf("%v: not new: %v", code, m)
	}
	return m
}

// checkMach asks for all that is done with one machine (P30, P31 and P32).
func checkMach(t *testing.T, code []impl.Op, m impl.Mach, status int) bool {
	t.Helper()
	given, codeUntouched := guarded(t, code, runs("mark"))
	mach, machUntouched := guardedMach(t, m)
	ok, end := impl.MachOk(given, mach), impl.MachEnd(given, mach)
	run, skip, on := impl.MachRun(given, mach), impl.MachSkip(given, mach), impl.MachGo(given, mach, status)
	codeUntouched("a machine")
	machUntouched("a machine")
	if ok != machFits(code, m) {
		t.Fatalf("%v with %+v: %v", m, code, ok)
	}
	if !ok {
		if end || !isNothing(run) || !isNothing(skip) || !isNothing(on) {
			t.Fatalf("%v with %+v is not ok: %v %v %v %v", m, code, end, run, skip, on)
		}
		return false
	}
	waits := !standsAtEnd(code, m) && len(m.Stats) == m.Inst
	wantRun, wantSkip, wantOn := m, m, m
	if waits {
		wantRun, wantSkip = ran(code, m), done(m, "", impl.StatusCut)
	}
	if len(m.Stats) > m.Inst && status >= 0 && status <= impl.StatusMax {
		wantOn = decided(code, m, status)
	}
	if end != standsAtEnd(code, m) || !sameMach(run, wantRun) || !sameMach(skip, wantSkip) || !sameMach(on, wantOn) {
		t.Fatalf("%+v with %+v and %d: %v %+v %+v %+v, not %+v %+v %+v", m, code, status, end, run, skip, on, wantRun, wantSkip, wantOn)
	}
	for _, next := range []impl.Mach{run, skip, on} {
		if !impl.MachOk(code, next) || len(next.Box.Files) != len(m.Box.Files) && !sameMach(next, run) {
			t.Fatalf("%+v with %+v: not ok: %+v", m, code, next)
		}
	}
	checkOnce(t, code, run, skip, on)
	return true
}

// checkOnce asks that what was done is not done again, and that one goes on only behind what was done.
func checkOnce(t *testing.T, code []impl.Op, run impl.Mach, skip impl.Mach, on impl.Mach) {
	t.Helper()
	for _, m := range []impl.Mach{run, skip} {
		if !sameMach(impl.MachRun(code, m), m) || !sameMach(impl.MachSkip(code, m), m) {
			t.Fatalf("%+v with %+v: done again", m, code)
		}
	}
	if len(on.Stats) == on.Inst && !sameMach(impl.MachGo(code, on, 0), on) {
		t.Fatalf("%+v with %+v: goes on though nothing was done", on, code)
	}
}

// randomCode is code that is ok and leads anywhere.
func randomCode(dice *rand.Rand, most int) []impl.Op {
	many := 1 + dice.IntN(most)
	var code []impl.Op
	for range many - 1 {
		op := impl.Op{Kind: []int{1, 1, 1, 2, 3, 4, 5, 6, 7, 8}[dice.IntN(10)]}
		switch op.Kind {
		case impl.OpRun:
			op.Text = randomCommands(dice)
		case impl.OpSet:
			op.Name, op.Text = pick(dice, fewNames), pick(dice, fewFiles)
		case impl.OpCase:
			op.Text = pick(dice, strings.Fields("0 1 * 1* *2 7 12* ** 127 x 00"))
		}
		if isLeading(op.Kind) {
			op.To = dice.IntN(many)
		}
		code = append(code, op)
	}
	return append(code, does(impl.OpEnd))
}

// busyPlant is a script of commands that boxes meet.
func busyPlant(dice *rand.Rand, size int) *plant {
	p := randomPlant(dice, size)
	var fill func(p *plant)
	fill = func(p *plant) {
		if p.kind == impl.NodePipe {
			p.text = randomCommands(dice)
		}
		for _, kid := range p.kids {
			fill(kid)
		}
	}
	fill(p)
	return p
}

// randomProgram is code of a script, or code that leads anywhere.
func randomProgram(dice *rand.Rand) []impl.Op {
	if dice.IntN(2) == 0 {
		if code, ok := impl.CodeOf(nodesOf(busyPlant(dice, 1+dice.IntN(8)))); ok {
			return code
		}
	}
	return randomCode(dice, []int{3, 8, 20, 100}[dice.IntN(4)])
}

func randomStatus(dice *rand.Rand) int {
	return []int{0, 0, 0, 0, 1, 1, 2, 10, 126, 127, dice.IntN(128)}[dice.IntN(11)]
}

func randomList(dice *rand.Rand, most int) []int {
	var list []int
	for range dice.IntN(most + 1) {
		list = append(list, randomStatus(dice))
	}
	return list
}

// randomMach is a machine that is ok, though none may come to be so.
func randomMach(dice *rand.Rand, code []impl.Op) impl.Mach {
	m := impl.Mach{Inst: []int{0, 1, dice.IntN(13), 11, 12}[dice.IntN(5)], Last: randomStatus(dice), Box: randomBox(dice)}
	for m.Pc = dice.IntN(len(code)); code[m.Pc].Kind != impl.OpRun && code[m.Pc].Kind != impl.OpEnd; m.Pc = dice.IntN(len(code)) {
	}
	many := m.Inst
	if code[m.Pc].Kind == impl.OpRun && m.Inst < 12 {
		many += dice.IntN(2)
	}
	for range many {
		m = done(m, randomFileText(dice), randomStatus(dice))
	}
	return m
}

// spoilMach changes a part of a machine, so that it is not ok, or still is.
func spoilMach(dice *rand.Rand, m impl.Mach) impl.Mach {
	switch dice.IntN(8) {
	case 0:
		m.Pc += []int{-1, 1, -1000, 1000, 2}[dice.IntN(5)]
	case 1:
		m.Inst += []int{-1, 1, 12, -12, 2}[dice.IntN(5)]
	case 2:
		m.Last = []int{-1, 128, 127, 0, 1 << 40, -1 << 40}[dice.IntN(6)]
	case 3:
		spoilBox(dice.IntN, &m.Box)
	case 4:
		m = done(m, "", 0)
	case 5:
		m.Outs = append(slices.Clone(m.Outs), []string{"", "\x00"}[dice.IntN(2)])
	case 6:
		m.Stats = append(slices.Clone(m.Stats), []int{-1, 0, 128}[dice.IntN(3)])
	case 7:
		if len(m.Stats) > 0 && len(m.Outs) > 0 {
			m.Stats, m.Outs = slices.Clone(m.Stats), slices.Clone(m.Outs)
			at := dice.IntN(min(len(m.Stats), len(m.Outs)))
			m.Stats[at] = []int{-1, 128, 127, 5}[dice.IntN(4)]
			m.Outs[at] = []string{"\t", "\x7f", strings.Repeat("a", 151), strings.Repeat("\n", 150), ""}[dice.IntN(5)]
		}
	}
	return m
}

// codeOf is the code of a script's text.
func codeOf(t *testing.T, s string) []impl.Op {
	t.Helper()
	nodes, at := impl.ScriptGet(s)
	code, ok := impl.CodeOf(nodes)
	if at != -1 || !ok {
		t.Fatalf("%q: %d %v", s, at, ok)
	}
	return code
}

func TestP29New(t *testing.T) {
	t.Parallel()
	end := does(impl.OpEnd)
	for _, c := range []struct {
		code []impl.Op
		want impl.Mach
	}{
		{[]impl.Op{end}, impl.Mach{}},
		{[]impl.Op{runs("a"), end}, impl.Mach{}},
		{[]impl.Op{does(impl.OpZero), end}, impl.Mach{Pc: 1}},
		{[]impl.Op{does(impl.OpNot), runs("a"), end}, impl.Mach{Pc: 1, Last: 1}},
		{[]impl.Op{does(impl.OpNot), does(impl.OpNot), end}, impl.Mach{Pc: 2}},
		{[]impl.Op{does(impl.OpNot), does(impl.OpZero), end}, impl.Mach{Pc: 2}},
		{[]impl.Op{sets("i", "x"), runs("a"), end}, impl.Mach{Pc: 1, Box: stock("$i=x")}},
		{[]impl.Op{sets("i", "x"), sets("a", "y"), sets("i", "z"), end}, impl.Mach{Pc: 3, Box: stock("$i=z", "$a=y")}},
		{[]impl.Op{leads(impl.OpGo, 2), runs("a"), end}, impl.Mach{Pc: 2}},
		{[]impl.Op{leads(impl.OpGo, 1), runs("a"), end}, impl.Mach{Pc: 1}},
		{[]impl.Op{leads(impl.OpFail, 2), runs("a"), end}, impl.Mach{Pc: 1}},
		{[]impl.Op{leads(impl.OpFine, 2), runs("a"), end}, impl.Mach{Pc: 2}},
		{[]impl.Op{does(impl.OpNot), leads(impl.OpFail, 3), runs("a"), end}, impl.Mach{Pc: 3, Last: 1}},
		{[]impl.Op{does(impl.OpNot), leads(impl.OpFine, 3), runs("a"), end}, impl.Mach{Pc: 2, Last: 1}},
		{[]impl.Op{cases("0", 2), runs("a"), end}, impl.Mach{Pc: 1}},
		{[]impl.Op{cases("*", 2), runs("a"), end}, impl.Mach{Pc: 1}},
		{[]impl.Op{cases("0*", 2), runs("a"), end}, impl.Mach{Pc: 1}},
		{[]impl.Op{cases("1", 2), runs("a"), end}, impl.Mach{Pc: 2}},
		{[]impl.Op{cases("00", 2), runs("a"), end}, impl.Mach{Pc: 2}},
		{[]impl.Op{leads(impl.OpGo, 2), end, end}, impl.Mach{}},
		// Around without end.
		{[]impl.Op{leads(impl.OpGo, 0), end}, impl.Mach{Pc: 1}},
		{[]impl.Op{leads(impl.OpGo, 0), runs("a"), end}, impl.Mach{Pc: 2}},
		{[]impl.Op{leads(impl.OpGo, 2), runs("a"), leads(impl.OpGo, 0), end}, impl.Mach{Pc: 3}},
		{[]impl.Op{cases("1", 0), runs("a"), end}, impl.Mach{Pc: 2}},
		{[]impl.Op{leads(impl.OpFine, 0), end}, impl.Mach{Pc: 1}},
		{[]impl.Op{sets("i", "x"), leads(impl.OpGo, 0), runs("a"), end}, impl.Mach{Pc: 3, Box: stock("$i=x")}},
	} {
		if m := checkNew(t, c.code); !sameMach(m, c.want) {
			t.Errorf("%v: %+v, not %+v", c.code, m, c.want)
		}
	}
	for _, s := range []string{"while case $? in 9) true;; esac; do case $? in 9) true;; esac; done; echo never", "until ! case $? in 9) a;; esac; do case $? in 9) a;; esac; done; b"} {
		code := codeOf(t, s)
		if m := checkNew(t, code); !impl.MachEnd(code, m) || m.Pc != len(code)-1 {
			t.Error(s, m)
		}
	}
	dice := newDice(29)
	ends := 0
	for range 3000 {
		code := randomProgram(dice)
		if impl.MachEnd(code, checkNew(t, code)) {
			ends++
		}
	}
	if ends < 100 || ends > 2900 {
		t.Error(ends)
	}
}

// A machine that goes around without end does just so many ops: what it set last tells how many.
func TestP29GoMax(t *testing.T) {
	for many := 1; many <= 98; many++ {
		var around []impl.Op
		for i := range many {
			around = append(around, sets("n", strconv.Itoa(i)))
		}
		code := append(around, leads(impl.OpGo, 0), does(impl.OpEnd))
		m := checkNew(t, code)
		want := strconv.Itoa(min((impl.GoMax-1)%(many+1), many-1))
		if m.Pc != many+1 || !sameBox(m.Box, stock("$n="+want)) {
			t.Errorf("%d ops: %+v, not %+v", many+1, m, want)
		}
		// Behind what was decided there are as many, the same as ahead of it.
		behind := append([]impl.Op{runs("true")}, code[:min(many, 97)]...)
		behind = append(behind, leads(impl.OpGo, 1), does(impl.OpEnd))
		m = impl.MachGo(behind, impl.MachRun(behind, impl.MachNew(behind)), 3)
		want = strconv.Itoa(min((impl.GoMax-1)%(min(many, 97)+1), min(many, 97)-1))
		if m.Pc != len(behind)-1 || m.Last != 3 || m.Inst != 1 || !sameBox(m.Box, stock("$n="+want)) || !impl.MachEnd(behind, m) {
			t.Errorf("%d ops behind: %+v, not %+v", many+1, m, want)
		}
	}
	// It is not over as long as it comes to an end, however far it goes.
	far := []impl.Op{runs("true")}
	for range 90 {
		far = append(far, sets("i", "x"))
	}
	far = append(far, cases("5", 94), does(impl.OpNot), leads(impl.OpGo, 1), leads(impl.OpFail, 97), does(impl.OpNot), leads(impl.OpGo, 1), runs("echo end"), does(impl.OpEnd))
	m := impl.MachGo(far, impl.MachRun(far, impl.MachNew(far)), 5)
	if m.Pc != 97 || m.Last != 1 || impl.MachEnd(far, m) || !sameMach(m, allDone(far, []int{5}, nil)) {
		t.Errorf("%+v", m)
	}
	// Between two that run it counts anew.
	code := append([]impl.Op{runs("a")}, slices.Repeat([]impl.Op{does(impl.OpZero)}, 95)...)
	code = append(code, runs("b"), leads(impl.OpGo, 0), does(impl.OpEnd))
	if m := impl.MachAll(code, slices.Repeat([]int{1}, 12), nil); m.Inst != 12 || m.Last != 0 && m.Last != 1 || !sameMach(m, allDone(code, slices.Repeat([]int{1}, 12), nil)) {
		t.Errorf("%+v", m)
	}
}

func TestMachFullOfNames(t *testing.T) {
	for many := 0; many <= impl.VarMax+2; many++ {
		var code []impl.Op
		for i := range many {
			code = append(code, sets("v"+strconv.Itoa(i), "x"))
		}
		code = append(code, sets("v0", "y"), sets("a", "z"), runs("echo $a"), does(impl.OpEnd))
		m := checkNew(t, code)
		want := filled(0, max(1, min(many, impl.VarMax)))
		for i := range want.Vars {
			want.Vars[i].Text = "x"
		}
		want.Vars[0].Text = "y"
		if len(want.Vars) < impl.VarMax {
			want = changed(want, "$a=z")
		}
		if !sameBox(m.Box, want) {
			t.Errorf("%d: %+v, not %+v", many, m.Box, want)
		}
	}
	// What is there stays there behind decisions, too, and one that is there may say something else.
	code := codeOf(t, "a=1 b=2 c=3 d=4 e=5; for f in x y; do for g in 1 2; do echo $f $g; done; done")
	if m := impl.MachAll(code, slices.Repeat([]int{0}, 5), nil); !slices.Equal(m.Outs, []string{"", "x\n", "x\n", "y\n", "y\n"}) || len(m.Box.Vars) != 6 {
		t.Errorf("%+v", m)
	}
}

// Each op, behind each decision.
func TestMachOps(t *testing.T) {
	t.Parallel()
	run, end := runs("a"), does(impl.OpEnd)
	for status := range impl.StatusMax + 1 {
		fails, zero := status != 0, 0
		decimals := strconv.Itoa(status)
		for _, c := range []struct {
			op    impl.Op
			leads bool
			last  int
		}{
			{leads(impl.OpFail, 3), fails, status},
			{leads(impl.OpFine, 3), !fails, status},
			{leads(impl.OpGo, 3), true, status},
			{does(impl.OpNot), false, map[bool]int{true: 0, false: 1}[fails]},
			{does(impl.OpZero), false, zero},
			{sets("i", "x"), false, status},
			{cases(decimals, 3), false, status},
			{cases("*", 3), false, status},
			{cases(decimals+"*", 3), false, status},
			{cases("*"+decimals, 3), false, status},
			{cases("x", 3), true, status},
			{cases("0"+decimals, 3), true, status},
			{cases(decimals+"0", 3), true, status},
			{cases("1*", 3), decimals[0] != '1', status},
			{cases("*7", 3), decimals[len(decimals)-1] != '7', status},
			{cases("12", 3), status != 12, status},
		} {
			code := []impl.Op{run, c.op, run, run, end}
			m := impl.MachGo(code, impl.MachSkip(code, impl.MachNew(code)), status)
			want := 2
			if c.leads {
				want = 3
			}
			if m.Pc != want || m.Last != c.last || m.Inst != 1 || (len(m.Box.Vars) == 1) != (c.op.Kind == impl.OpSet) {
				t.Errorf("%v behind %d: %+v", c.op, status, m)
			}
			checkMach(t, code, m, status)
		}
	}
}

func TestP30RandomMachines(t *testing.T) {
	t.Parallel()
	dice := newDice(30)
	waits, others := 0, 0
	for range 400 {
		code := randomProgram(dice)
		for range 6 {
			m := randomMach(dice, code)
			if !checkMach(t, code, m, randomStatus(dice)) {
				t.Fatalf("%+v with %+v", m, code)
			}
			if len(m.Stats) == m.Inst && !standsAtEnd(code, m) {
				waits++
			} else {
				others++
			}
			checkMach(t, code, m, []int{-1, 128, 1 << 40, -1 << 40}[dice.IntN(4)])
		}
	}
	if waits < 400 || others < 400 {
		t.Error(waits, others)
	}
}

func TestP30ByBoxRun(t *testing.T) {
	code := codeOf(t, "x=1 echo $? > f; cat f; echo $((x/0)); rm f | none")
	m := checkNew(t, code)
	for i, status := range []int{0, 5, 0, 127} {
		box, told, end := impl.BoxRun(m.Box, m.Last, code[m.Pc].Text)
		next := impl.MachRun(code, m)
		if next.Pc != m.Pc || next.Inst != i || next.Last != m.Last || !sameBox(next.Box, box) || !slices.Equal(next.Outs, append(slices.Clone(m.Outs), told)) || !slices.Equal(next.Stats, append(slices.Clone(m.Stats), end)) {
			t.Fatalf("%+v: %+v", m, next)
		}
		if again := impl.MachRun(code, next); !sameMach(again, next) {
			t.Fatalf("%+v, again %+v", next, again)
		}
		checkMach(t, code, m, status)
		checkMach(t, code, next, status)
		m = impl.MachGo(code, next, status)
	}
	if !impl.MachEnd(code, m) || !slices.Equal(m.Stats, []int{0, 0, 125, 127}) || !slices.Equal(m.Outs, []string{"", "0\n", "", ""}) || !sameBox(m.Box, stock("$x=1")) {
		t.Errorf("%+v", m)
	}
	if !sameMach(impl.MachRun(code, m), m) || !sameMach(impl.MachSkip(code, m), m) || !sameMach(impl.MachGo(code, m, 0), m) {
		t.Error("at its end")
	}
}

func TestP31Skipped(t *testing.T) {
	code := codeOf(t, "echo a > f; x=2; cat f; echo $x")
	m := checkNew(t, code)
	for range 4 {
		next := impl.MachSkip(code, m)
		if next.Pc != m.Pc || next.Inst != m.Inst || next.Last != m.Last || len(next.Box.Files)+len(next.Box.Vars) > 0 || len(next.Stats) != m.Inst+1 || next.Stats[m.Inst] != impl.StatusCut || next.Outs[m.Inst] != "" {
			t.Fatalf("%+v: %+v", m, next)
		}
		m = impl.MachGo(code, next, 0)
	}
	if !slices.Equal(m.Stats, []int{126, 126, 126, 126}) || !slices.Equal(m.Outs, make([]string, 4)) {
		t.Errorf("%+v", m)
	}
}

func TestP32GoesOn(t *testing.T) {
	code := codeOf(t, "a && b; for i in 1 2; do c; done")
	m := impl.MachRun(code, checkNew(t, code))
	for _, status := range []int{-1, 128, -1 << 60, 1 << 60} {
		if on := impl.MachGo(code, m, status); !sameMach(on, m) {
			t.Errorf("%d: %+v", status, on)
		}
	}
	for status := range impl.StatusMax + 1 {
		on := impl.MachGo(code, m, status)
		want := 4
		if status == 0 {
			want = 2
		}
		if on.Pc != want || on.Inst != 1 || on.Last != status || !slices.Equal(on.Outs, m.Outs) || !slices.Equal(on.Stats, m.Stats) || len(on.Box.Files) != len(m.Box.Files) {
			t.Errorf("%d: %+v", status, on)
		}
		for _, again := range []int{0, 1, status} {
			if !sameMach(impl.MachGo(code, on, again), on) {
				t.Errorf("%d, again %d", status, again)
			}
		}
	}
}

// Machines at the limit of decisions, and one ahead of it.
func TestMachInstMax(t *testing.T) {
	code := codeOf(t, "while true; do echo a; done")
	for many := 0; many <= impl.InstMax; many++ {
		m := impl.MachAll(code, make([]int, many), nil)
		if m.Inst != many || len(m.Stats) != many || impl.MachEnd(code, m) != (many == impl.InstMax) || !impl.MachOk(code, m) || code[m.Pc].Kind != impl.OpRun {
			t.Fatalf("%d: %+v", many, m)
		}
		checkMach(t, code, m, 0)
		more := done(m, "", 0)
		if impl.MachOk(code, more) != (many < impl.InstMax) {
			t.Errorf("%d and one more: %+v", many, more)
		}
		checkMach(t, code, more, 0)
		if many == impl.InstMax && (!sameMach(impl.MachRun(code, m), m) || !sameMach(impl.MachSkip(code, m), m) || !sameMach(impl.MachGo(code, m, 0), m)) {
			t.Error("at the limit")
		}
	}
	for _, many := range []int{13, 14, 1000} {
		if m := impl.MachAll(code, make([]int, many), nil); !isNothing(m) {
			t.Errorf("%d: %+v", many, m)
		}
	}
	// Though all are not taken, they are too many.
	if m := impl.MachAll([]impl.Op{runs("a"), does(impl.OpEnd)}, make([]int, 13), nil); !isNothing(m) {
		t.Errorf("%+v", m)
	}
	// The last decision may also be the last of the code.
	row := codeOf(t, strings.TrimSuffix(strings.Repeat("true; ", 12), "; "))
	if m := impl.MachAll(row, make([]int, 12), nil); m.Inst != 12 || row[m.Pc].Kind != impl.OpEnd || !impl.MachEnd(row, m) {
		t.Errorf("%+v", m)
	}
}

func TestP29WrongCode(t *testing.T) {
	end := does(impl.OpEnd)
	for _, code := range [][]impl.Op{nil, {}, {runs("a")}, {end, end}, {end, runs("a"), end}, {runs(""), end}, {runs("a; b"), end}, {runs("a "), end}, {leads(impl.OpGo, 2), end}, {leads(impl.OpFail, -1), end}, {sets("1", "x"), end}, {sets("i", "a b"), end}, {sets("i", ""), end}, {cases("", 0), end}, {cases("a b", 0), end}, {does(0), end}, {does(10), end}, {does(-1), end}, {{Kind: impl.OpRun, Text: "a", To: 1}, end}, {runs("a"), {Kind: impl.OpEnd, Text: "x"}}, append(slices.Repeat([]impl.Op{does(impl.OpZero)}, 100), end)} {
		checkNew(t, code)
		for _, m := range []impl.Mach{{}, {Pc: 1}, {Pc: 1, Inst: 1, Outs: []string{""}, Stats: []int{0}}} {
			if checkMach(t, code, m, 0) {
				t.Errorf("%v: %v", code, m)
			}
		}
		for _, list := range [][]int{nil, {0}, {0, 0, 0}} {
			if m := impl.MachAll(code, list, nil); !isNothing(m) {
				t.Errorf("%v: %v", code, m)
			}
		}
	}
}

func TestP30MachOk(t *testing.T) {
	t.Parallel()
	code := []impl.Op{runs("echo a"), does(impl.OpNot), runs("cat"), does(impl.OpEnd)}
	fits := func(want bool, m impl.Mach) {
		t.Helper()
		if checkMach(t, code, m, 0) != want {
			t.Errorf("%+v: %v", m, !want)
		}
	}
	outs, stats := []string{"a", "b\n"}, []int{0, 127}
	for pc, want := range map[int]bool{-1: false, 0: true, 1: false, 2: true, 3: true, 4: false, 100: false, -1 << 60: false, 1 << 60: false} {
		fits(want, impl.Mach{Pc: pc})
		fits(want, impl.Mach{Pc: pc, Inst: 2, Outs: outs, Stats: stats})
		fits(want && pc < 3, impl.Mach{Pc: pc, Inst: 1, Outs: outs, Stats: stats})
	}
	for inst, want := range map[int]bool{-2: false, -1: false, 0: false, 1: true, 2: true, 3: false, 12: false} {
		fits(want, impl.Mach{Inst: inst, Outs: outs, Stats: stats})
	}
	for many := range 16 {
		for inst := -1; inst <= 14; inst++ {
			m := impl.Mach{Inst: inst, Outs: make([]string, many), Stats: make([]int, many)}
			fits(inst >= 0 && inst <= 12 && (many == inst || many == inst+1 && inst < 12), m)
			m.Pc = 3
			fits(inst >= 0 && inst <= 12 && many == inst, m)
		}
	}
	for last, want := range map[int]bool{-1: false, 0: true, 127: true, 128: false, 1 << 40: false} {
		fits(want, impl.Mach{Last: last})
		fits(want, impl.Mach{Inst: 2, Outs: outs, Stats: []int{last, 0}})
		fits(want, impl.Mach{Inst: 2, Outs: outs, Stats: []int{0, last}})
		fits(want, impl.Mach{Inst: 1, Outs: outs, Stats: []int{0, last}})
	}
	for out, want := range map[string]bool{"": true, "\n": true, " ~": true, strings.Repeat("a", 150): true, strings.Repeat("\n", 150): true, strings.Repeat("a", 151): false, "\t": false, "\x00": false, "\x7f": false, "é": false, "a\r\n": false} {
		fits(want, impl.Mach{Inst: 2, Outs: []string{out, ""}, Stats: stats})
		fits(want, impl.Mach{Inst: 2, Outs: []string{"", out}, Stats: stats})
		fits(want, impl.Mach{Inst: 1, Outs: []string{"", out}, Stats: stats})
	}
	fits(false, impl.Mach{Inst: 2, Outs: outs[:1], Stats: stats})
	fits(false, impl.Mach{Inst: 1, Outs: outs, Stats: stats[:1]})
	fits(false, impl.Mach{Inst: 2, Outs: outs})
	fits(false, impl.Mach{Inst: 2, Stats: stats})
	fits(false, impl.Mach{Inst: 1, Outs: outs[:1], Stats: stats})
	fits(false, impl.Mach{Outs: outs[:1]})
	fits(false, impl.Mach{Stats: stats[:1]})
	for _, b := range wrongBoxes() {
		fits(false, impl.Mach{Box: b})
	}
	fits(true, impl.Mach{Box: shop()})
	dice := newDice(300)
	fine := 0
	for range 2500 {
		code := randomProgram(dice)
		if checkMach(t, code, spoilMach(dice, randomMach(dice, code)), randomStatus(dice)) {
			fine++
		}
	}
	if fine < 250 || fine > 2250 {
		t.Error(fine)
	}
}

// checkAll holds what all decisions come to against what they must come to, one by one (P33, P34 and P35).
func checkAll(t *testing.T, code []impl.Op, list []int, cuts []int) impl.Mach {
	t.Helper()
	givenCode, codeUntouched := guarded(t, code, runs("mark"))
	givenList, listUntouched := guarded(t, list, 99)
	givenCuts, cutsUntouched := guarded(t, cuts, 99)
	m := impl.MachAll(givenCode, givenList, givenCuts)
	codeUntouched("MachAll")
	listUntouched("MachAll")
	cutsUntouched("MachAll")
	if want := allDone(code, list, cuts); !sameMach(m, want) {
		t.Fatalf("%+v by %v without %v: %+v, not %+v", code, list, cuts, m, want)
	}
	return m
}

func TestP34OneByOne(t *testing.T) {
	t.Parallel()
	dice := newDice(34)
	ended, cut := 0, 0
	for range 800 {
		code := randomProgram(dice)
		list, cuts := randomList(dice, 12), randomList(dice, 6)
		for range dice.IntN(4) {
			cuts = append(cuts, dice.IntN(14)-1)
		}
		before := checkAll(t, code, nil, cuts)
		if !sameMach(before, impl.MachNew(code)) {
			t.Fatalf("%+v: %+v", code, before)
		}
		for many := 1; many <= len(list); many++ {
			m := checkAll(t, code, list[:many], cuts)
			next := impl.MachRun(code, before)
			if slices.Contains(cuts, many-1) {
				next = impl.MachSkip(code, before)
				cut++
			}
			if next = impl.MachGo(code, next, list[many-1]); !sameMach(m, next) {
				t.Fatalf("%+v by %v without %v: %+v, not %+v", code, list[:many], cuts, m, next)
			}
			if !impl.MachOk(code, m) || len(m.Stats) != m.Inst || m.Inst != many && !impl.MachEnd(code, m) {
				t.Fatalf("%+v by %v: %+v", code, list[:many], m)
			}
			if !slices.Equal(m.Outs[:len(before.Outs)], before.Outs) || !slices.Equal(m.Stats[:len(before.Stats)], before.Stats) {
				t.Fatalf("%+v by %v: %+v does not begin with %+v", code, list[:many], m, before)
			}
			before = m
		}
		if impl.MachEnd(code, before) {
			ended++
		}
	}
	if ended < 100 || cut < 250 {
		t.Error(ended, cut)
	}
}

func TestP33WhateverIsCut(t *testing.T) {
	t.Parallel()
	dice := newDice(33)
	for range 700 {
		code := randomProgram(dice)
		list := randomList(dice, 12)
		whole := checkAll(t, code, list, nil)
		for _, cuts := range [][]int{{0}, {len(list) - 1}, countFrom(0, 12), countFrom(-3, 20), randomList(dice, 12), {-1, 12, 100}, {1, 1, 1}, {5, 3, 1}} {
			m := checkAll(t, code, list, cuts)
			if m.Pc != whole.Pc || m.Inst != whole.Inst || m.Last != whole.Last || len(m.Stats) != len(whole.Stats) || len(m.Outs) != len(whole.Outs) {
				t.Fatalf("%+v by %v without %v: %+v, not %+v", code, list, cuts, m, whole)
			}
			for i, stat := range m.Stats {
				if slices.Contains(cuts, i) && (stat != impl.StatusCut || m.Outs[i] != "") {
					t.Fatalf("%+v by %v without %v: %+v", code, list, cuts, m)
				}
			}
		}
	}
}

func TestP35StaysDone(t *testing.T) {
	code := codeOf(t, "n=1; while test $n -lt 3; do echo $n >> f; n=$((n+1)); done; cat f && false")
	list := []int{0, 0, 0, 0, 0, 0, 0, 1, 0, 1, 0, 0}
	outs := []string{"", "", "", "", "", "", "", "", "1\n2\n", ""}
	stats := []int{0, 0, 0, 0, 0, 0, 0, 1, 0, 1}
	for many := range list {
		m := checkAll(t, code, list[:many], nil)
		done := min(many, 10)
		if m.Inst != done || !slices.Equal(m.Outs, outs[:done]) || !slices.Equal(m.Stats, stats[:done]) {
			t.Errorf("%d: %+v", many, m)
		}
	}
	m := checkAll(t, code, list, nil)
	if !impl.MachEnd(code, m) || m.Inst != 10 || m.Last != 1 || !sameBox(m.Box, stock("f=1\n2\n", "$n=3")) {
		t.Errorf("%+v", m)
	}
	// What is decided counts, not how it ended.
	if m := checkAll(t, codeOf(t, "false && echo a || echo b"), []int{0, 0, 0}, nil); !slices.Equal(m.Outs, []string{"", "a\n"}) || !slices.Equal(m.Stats, []int{1, 0}) {
		t.Errorf("%+v", m)
	}
	if m := checkAll(t, codeOf(t, "true && echo a || echo $?"), []int{9, 0}, nil); !slices.Equal(m.Outs, []string{"", "9\n"}) {
		t.Errorf("%+v", m)
	}
	if m := checkAll(t, codeOf(t, "case $? in 0) echo a $?;; esac; case $? in 1*) echo b $?;; *) echo c $?;; esac"), []int{12, 0}, nil); !slices.Equal(m.Outs, []string{"a 0\n", "b 12\n"}) {
		t.Errorf("%+v", m)
	}
	if m := checkAll(t, codeOf(t, "for i in x y; do for j in 1 2; do echo $i$j; done; done"), make([]int, 12), []int{2}); !slices.Equal(m.Outs, []string{"x1\n", "x2\n", "", "y2\n"}) {
		t.Errorf("%+v", m)
	}
	if m := checkAll(t, codeOf(t, "! true; echo $?; ! false; echo $?"), make([]int, 12), nil); !slices.Equal(m.Outs, []string{"", "1\n", "", "1\n"}) {
		t.Errorf("%+v", m)
	}
}

func TestP34WrongDecisions(t *testing.T) {
	code := codeOf(t, "while true; do true; done")
	for _, list := range [][]int{{-1}, {128}, {0, -1}, {0, 0, 128}, {1 << 60}, {-1 << 60}, {-1, 0}, slices.Repeat([]int{0}, 13), append(make([]int, 11), 200)} {
		if m := checkAll(t, code, list, nil); !isNothing(m) {
			t.Errorf("%v: %+v", list, m)
		}
	}
	// Also if it would be at its end ahead of them.
	if m := checkAll(t, []impl.Op{sets("i", "x"), does(impl.OpEnd)}, []int{128}, nil); !isNothing(m) {
		t.Errorf("%+v", m)
	}
	if m := checkAll(t, []impl.Op{sets("i", "x"), does(impl.OpEnd)}, []int{127, 0}, nil); m.Inst != 0 || m.Pc != 1 || len(m.Box.Vars) != 1 {
		t.Errorf("%+v", m)
	}
	for _, cuts := range [][]int{nil, {}, {-1}, {1 << 60, -1 << 60}, countFrom(0, 10000)} {
		checkAll(t, code, make([]int, 12), cuts)
	}
}

// scribbleMach writes into all that a machine has, room behind its ends included.
func scribbleMach(m impl.Mach) {
	scribbleBox(m.Box)
	for i := range m.Outs[:cap(m.Outs)] {
		m.Outs[:cap(m.Outs)][i] = "mark"
	}
	for i := range m.Stats[:cap(m.Stats)] {
		m.Stats[:cap(m.Stats)][i] = 99
	}
}

func TestMachAnswersAreNew(t *testing.T) {
	code := codeOf(t, "for i in x y; do echo a >> f; test -f g || cat f > g; done; rm f")
	var machines []impl.Mach
	for many := range 6 {
		m := impl.MachAll(code, make([]int, many), []int{1})
		machines = append(machines, m, impl.MachRun(code, m), impl.MachSkip(code, m))
	}
	for _, m := range machines {
		for name, answer := range map[string]func(m impl.Mach) impl.Mach{
			"MachNew":  func(m impl.Mach) impl.Mach { return impl.MachNew(code) },
			"MachRun":  func(m impl.Mach) impl.Mach { return impl.MachRun(code, m) },
			"MachSkip": func(m impl.Mach) impl.Mach { return impl.MachSkip(code, m) },
			"MachGo":   func(m impl.Mach) impl.Mach { return impl.MachGo(code, m, 0) },
			"no MachGo": func(m impl.Mach) impl.Mach {
				return impl.MachGo(code, m, 128)
			},
			"MachAll": func(m impl.Mach) impl.Mach { return impl.MachAll(code, m.Stats, m.Stats) },
		} {
			given, untouched := guardedMach(t, m)
			first, second := answer(given), answer(given)
			scribbleMach(first)
			untouched("an answer of " + name)
			if again := answer(given); !sameMach(again, second) {
				t.Errorf("%s of %+v: an answer is shared: %+v, %+v", name, m, again, second)
			}
		}
	}
}

func TestMachLeavesNobodyBehind(t *testing.T) {
	before := runtime.NumGoroutine()
	code := codeOf(t, "while echo a | cat | cat; do echo $((1/0)) | cat; cat | none | true; done")
	for range 200 {
		impl.MachAll(code, make([]int, 12), []int{3})
	}
	settled(t, before)
	var wg sync.WaitGroup
	want := impl.MachAll(code, make([]int, 12), []int{3})
	wrong := make([]int, 8)
	for worker := range wrong {
		wg.Go(func() {
			for range 20 {
				if !sameMach(impl.MachAll(code, make([]int, 12), []int{3}), want) {
					wrong[worker]++
				}
			}
		})
	}
	wg.Wait()
	if slices.Max(wrong) > 0 {
		t.Error(wrong)
	}
}
