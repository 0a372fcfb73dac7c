package tests

import (
	"fmt"
	"math/rand/v2"
	"regexp"
	"runtime"
	"slices"
	"strings"
	"testing"

	"loop.example/fugleman/impl"
)

func TestReportLimits(t *testing.T) {
	if impl.SessionMax != 40 {
		t.Error("limits of sessions")
	}
}

// checkGroups asks for groups, each once, and all that are alike in it (P70).
func checkGroups(t *testing.T, stats []int, outs []string) []impl.Group {
	t.Helper()
	givenStats, statsUntouched := guarded(t, stats, 99)
	givenOuts, outsUntouched := guarded(t, outs, "mark")
	list := impl.GroupsOf(givenStats, givenOuts)
	statsUntouched("GroupsOf")
	outsUntouched("GroupsOf")
	if len(stats) != len(outs) || len(stats) > 30 {
		if len(list) > 0 {
			t.Fatalf("%v %q: %v", stats, outs, list)
		}
		return nil
	}
	seen := map[int]int{}
	ahead := 0
	for number, g := range list {
		hosts, ok := impl.HostsOpen(g.Hosts)
		if !ok || len(hosts) == 0 || hosts[0].Num <= ahead {
			t.Fatalf("%v %q: %v", stats, outs, list)
		}
		ahead = hosts[0].Num
		for _, h := range hosts {
			if h.Name != "node" || h.Num < 1 || h.Num > len(stats) || stats[h.Num-1] != g.Status || outs[h.Num-1] != g.Out {
				t.Fatalf("%v %q: %v", stats, outs, list)
			}
			seen[h.Num]++
		}
		for _, other := range list[:number] {
			if other.Status == g.Status && other.Out == g.Out {
				t.Fatalf("%v %q: alike: %v", stats, outs, list)
			}
		}
	}
	for place := range stats {
		if seen[place+1] != 1 {
			t.Fatalf("%v %q: %d: %v", stats, outs, place, list)
		}
	}
	return list
}

func groupOf(hosts string, status int, out string) impl.Group {
	return impl.Group{Hosts: hosts, Status: status, Out: out}
}

func TestP70Groups(t *testing.T) {
	t.Parallel()
	for _, c := range []struct {
		stats []int
		outs  []string
		want  []impl.Group
	}{
		{nil, nil, nil},
		{[]int{}, []string{}, nil},
		{[]int{0}, nil, nil},
		{nil, []string{""}, nil},
		{[]int{0, 0}, []string{""}, nil},
		{[]int{0}, []string{"", ""}, nil},
		{[]int{5}, []string{"a"}, []impl.Group{groupOf("node1", 5, "a")}},
		{[]int{0, 1, 0, 0}, []string{"a\n", "", "a\n", "b\n"}, []impl.Group{groupOf("node[1,3]", 0, "a\n"), groupOf("node2", 1, ""), groupOf("node4", 0, "b\n")}},
		{[]int{0, 0, 0}, []string{"", "", ""}, []impl.Group{groupOf("node[1-3]", 0, "")}},
		{[]int{0, 1, 2}, []string{"a", "a", "a"}, []impl.Group{groupOf("node1", 0, "a"), groupOf("node2", 1, "a"), groupOf("node3", 2, "a")}},
		{[]int{1, 1, 1}, []string{"a", "b", "a"}, []impl.Group{groupOf("node[1,3]", 1, "a"), groupOf("node2", 1, "b")}},
		{[]int{2, 1, 2, 1}, []string{"b", "a", "b", "a"}, []impl.Group{groupOf("node[1,3]", 2, "b"), groupOf("node[2,4]", 1, "a")}},
		{[]int{-1, 1 << 40, -1 << 63, -1}, []string{"\x00", "1", "-1", "\x00"}, []impl.Group{groupOf("node[1,4]", -1, "\x00"), groupOf("node2", 1<<40, "1"), groupOf("node3", -1<<63, "-1")}},
		{[]int{1, 11, 1}, []string{"1", "", "11"}, []impl.Group{groupOf("node1", 1, "1"), groupOf("node2", 11, ""), groupOf("node3", 1, "11")}},
	} {
		if list := checkGroups(t, c.stats, c.outs); !slices.Equal(list, c.want) {
			t.Errorf("%v %q: %v, not %v", c.stats, c.outs, list, c.want)
		}
	}
	for many := range 40 {
		list := checkGroups(t, make([]int, many), make([]string, many))
		apart := checkGroups(t, countFrom(5, many), make([]string, many))
		fits := many > 0 && many <= impl.HostMax
		if fits != (len(list) == 1) || fits != (len(apart) == many && many > 0) || many == 30 && list[0].Hosts != "node[1-30]" {
			t.Errorf("%d: %v %v", many, list, apart)
		}
		checkGroups(t, make([]int, many), make([]string, 30))
		checkGroups(t, make([]int, 30), make([]string, many))
	}
	dice := newDice(70)
	for range 3000 {
		many := dice.IntN(31)
		kinds := 1 + dice.IntN(3)
		var stats []int
		var outs []string
		for range many {
			stats = append(stats, dice.IntN(kinds)-1)
			outs = append(outs, strings.Repeat("a", dice.IntN(kinds)))
		}
		checkGroups(t, stats, outs)
	}
}

// checkReport asks what a report says of a world that is ok (P71).
func checkReport(t *testing.T, w impl.World) string {
	t.Helper()
	report := impl.Report(w)
	var ends []string
	last := ""
	for line := range strings.Lines(report) {
		if !strings.HasSuffix(line, "\n") {
			t.Fatalf("%q", report)
		}
		if line[0] != ' ' && line[0] != 'd' {
			ends = append(ends, line)
		}
		last = line
	}
	for inst, status := range impl.WorldWay(w) {
		if inst >= len(ends) || ends[inst] != fmt.Sprintf("%d: %d\n", inst, status) {
			t.Fatalf("%q, %v", report, impl.WorldWay(w))
		}
	}
	if done := strings.HasPrefix(last, "done "); len(ends) != len(impl.WorldWay(w)) || done != impl.WorldDone(w) || done && last != fmt.Sprintf("done %d\n", w.Agents[0].Mach.Last) {
		t.Fatalf("%q, %s", report, worldText(w))
	}
	return report
}

func TestP71Report(t *testing.T) {
	t.Parallel()
	s := stageOf(t, "echo a; echo $?; cat f", impl.PolicyMost, 3)
	if report := checkReport(t, s.world); report != "" {
		t.Errorf("%q", report)
	}
	// Agent 1 is cut off in the midst of the first command, and agent 2 does not tell of it in time.
	s.does(true, impl.WorldFall, 1, 6)
	s.does(true, impl.WorldRise, 1, 0)
	s.tick(10, 3)
	s.bring("2 10 11", "3 11 10")
	s.tick(0, 1)
	s.tick(1, 1)
	s.tick(2, 1)
	s.bring("1 0 10", "1 1 10")
	s.tick(10, 4)
	s.bring("5 10 11", "6 11 10")
	if report := checkReport(t, s.world); report != "0: 123\n  node1 0\n    a\n  node2 126\n  node3 -1\n" {
		t.Errorf("%q", report)
	}
	s.ends(123, 0, 1)
	report := "0: 123\n  node1 0\n    a\n  node2 126\n  node3 -1\n1: 0\n  node[1-3] 0\n    123\n2: 1\n  node[1-3] 1\ndone 1\n"
	if is := checkReport(t, s.world); is != report {
		t.Errorf("%q, not %q", is, report)
	}
	// Who fell is not at its end, but its log still tells what it told.
	s.does(true, impl.WorldFall, 2, 0)
	if is := checkReport(t, s.world); is != strings.TrimSuffix(report, "done 1\n") {
		t.Errorf("%q", is)
	}
	s.does(true, impl.WorldFall, 12, 0)
	s.does(true, impl.WorldFall, 11, 0)
	s.does(true, impl.WorldRise, 2, 0)
	if is := checkReport(t, s.world); is != report {
		t.Errorf("%q", is)
	}
	w := townOf(s.world).World
	w.Agents[2].Mach.Last = 0
	if is := impl.Report(w); is != "" {
		t.Errorf("not ok: %q", is)
	}
}

func TestP71Outs(t *testing.T) {
	t.Parallel()
	for script, want := range map[string]string{
		"true":               "0: 0\n  node[1-2] 0\ndone 0\n",
		"echo":               "0: 0\n  node[1-2] 0\n    \ndone 0\n",
		"echo | cat; ! true": "0: 0\n  node[1-2] 0\n    \n1: 0\n  node[1-2] 0\ndone 1\n",
		"echo b > f | echo '' >> f | echo a >> f | cat f": "0: 0\n  node[1-2] 0\n    b\n    \n    a\ndone 0\n",
		"echo '  x ' | cat; none":                         "0: 0\n  node[1-2] 0\n      x \n1: 127\n  node[1-2] 127\ndone 127\n",
		"echo $((1/0)) || case $? in 125) false;; esac":   "0: 125\n  node[1-2] 125\n1: 1\n  node[1-2] 1\ndone 1\n",
		"echo $((1/0)) || case $? in 12) false;; esac":    "0: 125\n  node[1-2] 125\ndone 0\n",
		"while true; do true; done":                       strings.Join(manyLines(12, "%d: 0\n  node[1-2] 0\n"), "") + "done 0\n",
	} {
		for policy := 1; policy <= 3; policy++ {
			w := impl.WorldCalm(impl.WorldNew(codeOf(t, script), policy, 2), 60)
			if report := checkReport(t, w); report != want {
				t.Errorf("%s: %q, not %q", script, report, want)
			}
		}
	}
	// Nothing runs: nothing is decided, and all are at their end.
	for _, code := range [][]impl.Op{{does(impl.OpEnd)}, {does(impl.OpNot), does(impl.OpEnd)}} {
		if report := checkReport(t, impl.WorldNew(code, 1, 1)); report != fmt.Sprintf("done %d\n", len(code)-1) {
			t.Errorf("%q", report)
		}
	}
}

// manyLines are so many lines with numbers, from 0 on.
func manyLines(many int, form string) []string {
	var lines []string
	for number := range many {
		lines = append(lines, fmt.Sprintf(form, number))
	}
	return lines
}

// A vote that an agent did not tell, and votes of agents that did less: a report tells what the logs say.
func TestP71NotSafe(t *testing.T) {
	t.Parallel()
	w := impl.WorldNew(codeOf(t, "echo a; echo b"), impl.PolicyAll, 3)
	for id := range w.Agents {
		w.Agents[id] = impl.AgentRise(w.Code, impl.Agent{Id: id, Log: logText([]string{"i 0", "d 0", "c 0 0", "i 1", "d 1"}[:2+3*(id/2)]...)})
	}
	w.Reps[1] = impl.RepRise(3, impl.Rep{Id: 11, Log: logText("k 0 0,5,-1", "k 1 0,0,0", "k 2 7,-1,7")})
	if !checkWorld(t, w) || impl.WorldSafe(w) {
		t.Error(worldText(w))
	}
	if report := checkReport(t, w); report != "0: 123\n  node1 0\n    a\n  node2 5\n    a\n  node3 -1\n1: 0\n  node[1-2] 0\n  node3 0\n    b\n2: 123\n  node[1,3] 7\n  node2 -1\n" {
		t.Errorf("%q", report)
	}
	// The longest is the way, and of two that are as long the first one.
	w.Reps[0] = impl.Rep{Id: 10, Log: logText("k 0 1,1,1", "k 1 2,2,2") + "8:k 2 7,-1,"}
	w.Reps[2] = impl.RepRise(3, impl.Rep{Id: 12, Log: logText("k 0 3,3,3", "k 1 4,4,4", "k 2 5,5,5")})
	if way := impl.WorldWay(w); !checkWorld(t, w) || !slices.Equal(way, []int{123, 0, 123}) {
		t.Error(way)
	}
	w.Reps[1], w.Reps[0].Log = impl.Rep{Id: 11}, w.Reps[2].Log
	if way := impl.WorldWay(w); !checkWorld(t, w) || !slices.Equal(way, []int{3, 4, 5}) {
		t.Error(way)
	}
	w.Reps[0].Log = logText("k 0 6,6,6", "k 1 6,6,6", "k 2 6,6,6")
	if way := impl.WorldWay(w); !checkWorld(t, w) || !slices.Equal(way, []int{6, 6, 6}) {
		t.Error(way)
	}
	checkReport(t, w)
}

func TestP71AnyWorlds(t *testing.T) {
	t.Parallel()
	dice := newDice(71)
	done := 0
	for number, p := range somePlays(t, 711, 60) {
		w := p.world()
		if number%2 == 0 {
			w = impl.WorldCalm(w, 1+dice.IntN(30))
		}
		if !checkWorld(t, w) {
			t.Fatal(worldText(w))
		}
		checkReport(t, w)
		if impl.WorldDone(w) {
			done++
		}
	}
	for range 200 {
		w := randomWorld(dice)
		checkWorld(t, w)
		checkReport(t, w)
	}
	if done < 10 {
		t.Error(done)
	}
}

// sessionForm is what lines of a session say behind the first two.
var sessionForm = func() *regexp.Regexp {
	num := `(0|[1-9][0-9]{0,5})`
	return regexp.MustCompile(`^(?:(report)|(safe)|calm ` + num + `|(tick|bring|keep|lose|spoil|fallhear|fall|rise) ` + num + `(?: ` + num + `)?)$`)
}()

// sessionMeant is what a session must answer.
func sessionMeant(lines []string) string {
	if len(lines) < 2 {
		return ""
	}
	found := regexp.MustCompile(`^(all|any|most) ([1-3])$`).FindStringSubmatch(lines[0])
	if found == nil {
		return "what\n"
	}
	nodes, at := impl.ScriptGet(lines[1])
	if at != -1 {
		return fmt.Sprintf("wrong %d\n", at)
	}
	code, ok := impl.CodeOf(nodes)
	if !ok {
		return "long\n"
	}
	a := newTown(code, map[string]int{"all": 1, "any": 2, "most": 3}[found[1]], mustNum(found[2]))
	text := ""
	for number, line := range lines[2:] {
		if number < 38 {
			text += a.answers(line)
		}
	}
	return text
}

// answers is what is answered to a line.
func (a *town) answers(line string) string {
	kinds := map[string]int{"tick": 1, "bring": 2, "keep": 3, "lose": 4, "spoil": 5, "fallhear": 6, "fall": 7, "rise": 8}
	found := sessionForm.FindStringSubmatch(line)
	switch {
	case found == nil:
		return "what\n"
	case found[1] != "":
		return a.report()
	case found[2] != "":
		return map[bool]string{true: "yes\n", false: "no\n"}[a.isSafe()]
	case found[3] != "":
		for range min(mustNum(found[3]), 100) {
			a.round()
		}
		return "ok\n"
	}
	e := impl.Event{Kind: kinds[found[4]], At: mustNum(found[5])}
	if found[6] != "" {
		e.Num = mustNum(found[6])
	}
	return map[bool]string{true: "ok\n", false: "no\n"}[a.event(e)]
}

// checkSession holds what a session answers against what it must.
func checkSession(t *testing.T, lines ...string) string {
	t.Helper()
	given, untouched := guarded(t, lines, "mark")
	is, want := impl.Session(given), sessionMeant(lines)
	untouched("Session")
	if is != want {
		t.Fatalf("%q: %q, not %q", lines, is, want)
	}
	return is
}

// asksSession asks for what a session answers to its lines behind the first two, line by line.
func asksSession(t *testing.T, first string, script string, pairs ...string) {
	t.Helper()
	lines := []string{first, script}
	told := ""
	for at := 0; at < len(pairs); at += 2 {
		lines = append(lines, pairs[at])
		told += pairs[at+1]
		if is := checkSession(t, lines...); is != told {
			t.Errorf("%q: %q, not %q", lines, is, told)
		}
	}
}

func TestP72Example(t *testing.T) {
	t.Parallel()
	report := "0: 0\n  node[1,3] 0\n  node2 126\n1: 1\n  node[1-3] 1\n2: 0\n  node[1-3] 0\n    it's 1\n3: 0\n  node[1,3] 0\n    a\n  node2 1\ndone 0\n"
	asksSession(t, "most 3", "echo a > f; false || echo \"it's $?\"; case $? in 0) cat f;; *) rm f;; esac",
		"tick 0", "ok\n", "fall 1 7", "ok\n", "rise 1", "ok\n", "tick 1", "ok\n", "tick 11", "ok\n", "calm 12", "ok\n", "report", report, "fall 12 0", "ok\n", "calm 20", "ok\n", "report", report, "tick 9", "no\n")
}

func TestP72Commands(t *testing.T) {
	t.Parallel()
	// Each command with one number, with two, and where it cannot be.
	asksSession(t, "any 2", "echo a", "report", "", "safe", "yes\n", "tick 0", "ok\n", "tick 1 5", "ok\n", "tick 2", "no\n", "tick 13", "no\n", "tick 999999", "no\n",
		"bring 0", "ok\n", "bring 3 7", "ok\n", "bring 4", "no\n", "keep 1", "ok\n", "keep 3 0", "ok\n", "keep 4", "no\n", "lose 3", "ok\n", "lose 2 999999", "ok\n", "lose 2", "no\n")
	asksSession(t, "all 1", "echo a", "tick 0", "ok\n", "spoil 0", "ok\n", "spoil 1 3", "ok\n", "spoil 2 999999", "ok\n", "spoil 3 1", "no\n", "bring 2", "ok\n", "bring 1", "ok\n", "bring 0", "ok\n", "bring 0", "no\n", "tick 12", "ok\n", "tick 10", "ok\n", "tick 10", "ok\n", "tick 10", "ok\n", "fallhear 0 6", "ok\n", "rise 11", "ok\n", "fallhear 0", "ok\n", "fallhear 0", "no\n", "rise 12 1", "ok\n", "rise 12", "no\n", "fall 10 6", "ok\n", "fall 10", "no\n", "fall 0", "ok\n", "tick 0", "no\n", "rise 0", "ok\n", "calm 0", "ok\n", "report", "", "calm 9", "ok\n", "report", "0: 0\n  node1 0\n    a\ndone 0\n", "calm 999999", "ok\n", "safe", "yes\n")
	// What no number may be, and what no command is.
	for _, word := range []string{"tick", "bring", "keep", "lose", "spoil", "fallhear", "fall", "rise"} {
		for _, behind := range []string{"", " ", " 0 ", "  0", " 0  0", " 0 0 ", " 0 0 0", " -1", " 0 -1", " 00", " 01", " 0 00", " +0", " 1000000", " 0 1000000", " x", " 0 x", " 0x", " 0,0", "\t0", " 0\n", "0", " \xff", " 1.0", " ٣"} {
			asksSession(t, "all 1", "true", word+behind, "what\n", "tick 0", "ok\n")
		}
		asksSession(t, "all 1", "true", " "+word+" 0", "what\n", strings.ToUpper(word)+" 0", "what\n", word[1:]+" 0", "what\n", word+"s 0", "what\n", "0 "+word, "what\n")
	}
	for _, line := range []string{"", " ", "what", "ok", "report 0", "report ", " report", "reports", "Report", "report\n", "safe 1", "safe ", "safe safe", "safe\n", "calm", "calm ", "calm x", "calm -1", "calm 1 1", "calm 01", "calm 1000000", "calm  1", "calm 1 ", "calm 1\n", "0", "0 0", "1 0", " 0", " 0 0", "  0", "2", "all 1", "true", "\x00", "\xff 0", "# tick 0", "tick 0; tick 0", "tick\x000"} {
		asksSession(t, "all 1", "true", "tick 0", "ok\n", line, "what\n", "safe", "yes\n", line, "what\n", "lose 0", "ok\n")
	}
}

func TestP72Begins(t *testing.T) {
	t.Parallel()
	for _, first := range []string{"", " ", "all", "all ", "all 0", "all 4", "all 10", "all 01", "all -1", "all  1", "all 1 ", " all 1", "all 1 1", "all x", "all\t1", "all1", "all 1\n", "ALL 1", "al 1", "alll 1", "none 1", "1 all", "1", " 1", "most", "any 4", "most 0", "any  2", "all 1000001", "all 18446744073709551617"} {
		for _, script := range []string{"true", "if", ""} {
			if told := checkSession(t, first, script, "tick 0", "report"); told != "what\n" {
				t.Errorf("%q: %q", first, told)
			}
		}
	}
	for _, way := range []string{"all", "any", "most"} {
		for many := 1; many <= 3; many++ {
			first := fmt.Sprint(way, " ", many)
			asksSession(t, first, "true", "tick 0", "ok\n", fmt.Sprint("tick ", many-1), "ok\n", fmt.Sprint("tick ", many), "no\n", "calm 20", "ok\n", "report", fmt.Sprint("0: 0\n  ", []string{"", "node1", "node[1-2]", "node[1-3]"}[many], " 0\ndone 0\n"))
			if told := checkSession(t, first, "true"); told != "" {
				t.Errorf("%q: %q", first, told)
			}
		}
	}
	// The way to decide is to be seen when one was cut off.
	for way, end := range map[string]int{"all": 126, "any": 0, "most": 0} {
		asksSession(t, way+" 3", "true", "fall 1 6", "ok\n", "calm 30", "ok\n", "report", fmt.Sprintf("0: %d\n  node[1,3] 0\n  node2 126\ndone %d\n", end, end))
	}
	for script, want := range map[string]string{
		"if": "wrong 2\n", "": "wrong 0\n", "true; fi": "wrong 6\n", "echo 'a": "wrong 5\n", "true |": "wrong 6\n", "\x00": "wrong 0\n",
		strings.Repeat(" ", 496) + "true": "", strings.Repeat(" ", 497) + "true": "wrong 500\n", "true\n# a remark\n": "",
	} {
		if told := checkSession(t, "all 2", script); told != want {
			t.Errorf("%q: %q", script, told)
		}
		if told := checkSession(t, "all 2", script, "report", "safe"); want != "" && told != want {
			t.Errorf("%q: %q", script, told)
		}
	}
}

// A script that is ok may have more ops than there may be: each name of a NodeFor has its own.
func TestP72Long(t *testing.T) {
	t.Parallel()
	for many := 40; many <= 55; many++ {
		script := "for i in" + strings.Repeat(" a", many) + "; do true; done"
		fits := 2*many+1 <= 100
		told := checkSession(t, "all 1", script, "tick 0", "safe")
		if fits && told != "ok\nyes\n" || !fits && told != "long\n" {
			t.Errorf("%d: %q", many, told)
		}
	}
}

func TestP72SessionMax(t *testing.T) {
	t.Parallel()
	for _, lines := range [][]string{nil, {}, {""}, {"all 1"}, {"what"}} {
		if told := checkSession(t, lines...); told != "" {
			t.Errorf("%q: %q", lines, told)
		}
	}
	for _, line := range []string{"what", "tick 0", "safe", "calm 1"} {
		for many := range 60 {
			lines := append([]string{"most 2", "true"}, slices.Repeat([]string{line}, many)...)
			if told := checkSession(t, lines...); strings.Count(told, "\n") != min(many, 38) {
				t.Errorf("%d %q: %q", many, line, told)
			}
		}
	}
	// What is passed over does nothing, either.
	lines := append([]string{"all 1", "true"}, slices.Repeat([]string{"safe"}, 37)...)
	if told := checkSession(t, append(lines, "report", "calm 20", "report")...); told != strings.Repeat("yes\n", 37) {
		t.Errorf("%q", told)
	}
}

// randomLine is a line that a session may have.
func randomLine(dice *rand.Rand) string {
	switch dice.IntN(12) {
	case 0:
		return "report"
	case 1:
		return "safe"
	case 2:
		return fmt.Sprint("calm ", dice.IntN(8))
	case 3:
		return spoil(dice, "fallhear 0 12", "0123 -tickbr\n")
	}
	word := pick(dice, strings.Fields("tick tick tick tick bring bring bring bring bring keep lose spoil fallhear fall rise rise"))
	at := []int{0, 1, 2, 3, 10, 10, 11, 12}[dice.IntN(8)]
	if word == "bring" {
		at = dice.IntN(3)
	}
	if dice.IntN(3) == 0 {
		return fmt.Sprint(word, " ", at, " ", dice.IntN(20))
	}
	return fmt.Sprint(word, " ", at)
}

// randomSession is a session that tells this and that.
func randomSession(dice *rand.Rand, most int) []string {
	lines := []string{pick(dice, []string{"all ", "any ", "most "}) + fmt.Sprint(1+dice.IntN(3)), pick(dice, playScripts())}
	for range dice.IntN(most + 1) {
		lines = append(lines, randomLine(dice))
	}
	return lines
}

func TestP72FirstLines(t *testing.T) {
	t.Parallel()
	dice := newDice(72)
	for range 40 {
		lines := randomSession(dice, 45)
		if dice.IntN(8) == 0 {
			lines[dice.IntN(2)] = pick(dice, []string{"all 4", "if", "any", "fi", "most 3 "})
		}
		all := checkSession(t, lines...)
		for many := range len(lines) {
			if first := impl.Session(lines[:many]); !strings.HasPrefix(all, first) {
				t.Fatalf("%q: %q, of the first %d %q", lines, all, many, first)
			}
		}
	}
}

// tellsEach is what each line of a session tells.
func tellsEach(lines []string) []string {
	var each []string
	ahead := ""
	for many := 2; many < len(lines); many++ {
		told := impl.Session(lines[:many+1])
		each = append(each, strings.TrimPrefix(told, ahead))
		ahead = told
	}
	return each
}

func TestP73AskingChangesNothing(t *testing.T) {
	t.Parallel()
	dice := newDice(73)
	asked := 0
	for range 30 {
		lines := randomSession(dice, 18)
		with := slices.Clone(lines[:2])
		var own []string
		for number, line := range lines[2:] {
			for range dice.IntN(2) {
				with = append(with, []string{"safe", "report"}[dice.IntN(2)])
				asked++
			}
			with = append(with, line)
			own = append(own, fmt.Sprint(number, " ", line))
		}
		without := tellsEach(lines)
		at := 0
		for number, told := range tellsEach(with) {
			line := with[2+number]
			if line == "safe" && told != "yes\n" {
				t.Fatalf("%q: %q", with, told)
			}
			if at < len(own) && line == lines[2+at] && told == without[at] {
				at++
			} else if line != "safe" && line != "report" {
				t.Fatalf("%q: %d tells %q, not %q", with, number, told, without[at])
			}
		}
		if at != len(own) {
			t.Fatalf("%q: %q", with, without)
		}
	}
	if asked < 80 {
		t.Error(asked)
	}
}

func TestReportAnswersAreNew(t *testing.T) {
	t.Parallel()
	stats, outs := []int{0, 1, 0}, []string{"a", "b", "a"}
	first, second := impl.GroupsOf(stats, outs), impl.GroupsOf(stats, outs)
	fillUp(first, impl.Group{Hosts: "mark"})
	if want := []impl.Group{groupOf("node[1,3]", 0, "a"), groupOf("node2", 1, "b")}; !slices.Equal(second, want) || !slices.Equal(impl.GroupsOf(stats, outs), want) || stats[1] != 1 || outs[1] != "b" {
		t.Errorf("%v", second)
	}
}

func TestReportLeavesNobodyBehind(t *testing.T) {
	before := runtime.NumGoroutine()
	dice := newDice(7373)
	for range 10 {
		impl.Session(randomSession(dice, 40))
		impl.Session([]string{"all 4", "true"})
		impl.Session([]string{"all 3", "if"})
	}
	impl.Report(impl.World{})
	impl.Report(impl.WorldNew(codeOf(t, "true"), 1, 3))
	settled(t, before)
}
