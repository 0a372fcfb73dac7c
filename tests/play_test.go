package tests

import (
	"fmt"
	"math/rand/v2"
	"runtime"
	"slices"
	"strings"
	"testing"

	"loop.example/fugleman/impl"
)

// twoVotes is a stage on which agent 0 told 10 that it ended with 1, and agent 1 told 11 that it was cut off.
func twoVotes(t *testing.T) *stage {
	s := stageOf(t, "false; true", impl.PolicyAll, 2)
	s.does(true, impl.WorldFall, 1, 6)
	s.does(true, impl.WorldRise, 1, 0)
	s.tick(0, 1)
	s.tick(1, 1)
	s.bring("1 0 10 0 0 1 -", "1 1 11 0 0 126 -")
	s.loseAll("1 ")
	return s
}

// Two would lead at once: who is promised by a greater ballot wins, and the other one is refused.
func TestP62TwoLeadersOneRefused(t *testing.T) {
	t.Parallel()
	s := twoVotes(t)
	s.tick(10, 3)
	s.bring("2 10 12 3", "3 12 10 3")
	s.loseAll("2 10 11")
	s.tick(10, 4)
	s.loseAll("7 ")
	s.isUnder("5 10 11 3 0 1,-1 - | 5 10 12 3 0 1,-1 -")
	s.tick(11, 5)
	s.bring("2 11 12 4", "3 12 11 4 0 - -")
	s.tick(11, 4)
	s.loseAll("7 ")
	if one, two := s.world.Reps[0], s.world.Reps[1]; one.Lead != 3 || two.Lead != 4 || len(one.Yes) != 2 || len(two.Yes) != 2 {
		t.Fatal(worldText(s.world))
	}
	s.isUnder("5 10 11 3 0 1,-1 - | 5 10 12 3 0 1,-1 - | 2 11 10 4 0 - - | 5 11 10 4 0 -1,126 - | 5 11 12 4 0 -1,126 -")
	// 12 promised more, and so did 11.
	s.on(impl.WorldKeep, "5 10 12 3", 0)
	s.bring("5 10 12 3", "5 10 11 3")
	s.way()
	s.bring("5 11 12 4", "6 12 11 4")
	s.way(126)
	s.bring("4 12 10 4", "4 11 10 4")
	if r := s.world.Reps[0]; r.Lead != 0 || r.Seen != 4 || len(r.Chosen) != 0 {
		t.Fatalf("%+v", r)
	}
	s.bring("9 11 0 0 0 -1,126 -", "9 11 10 0 0 -1,126 -")
	if s.world.Agents[0].Mach.Last != 126 || len(s.world.Reps[0].Chosen) != 1 {
		t.Fatal(worldText(s.world))
	}
	s.ends(126, 0)
}

// Two would lead at once: what was written by the lower ballot may be decided, and so the other one proposes it, too.
func TestP62TwoLeadersOneVote(t *testing.T) {
	t.Parallel()
	for _, first := range []bool{true, false} {
		s := twoVotes(t)
		s.tick(10, 3)
		s.bring("2 10 12 3", "3 12 10 3")
		s.loseAll("2 10 11")
		s.tick(10, 4)
		s.loseAll("7 ")
		s.bring("5 10 12 3 0 1,-1 -")
		s.tick(11, 5)
		s.bring("2 11 12 4", "3 12 11 4 0 - 0:3:1,-1")
		s.tick(11, 1)
		s.loseAll("7 ")
		s.isUnder("5 10 11 3 0 1,-1 - | 6 12 10 3 0 - - | 2 11 10 4 0 - - | 5 11 10 4 0 1,-1 - | 5 11 12 4 0 1,-1 -")
		// Whoever decides first, it is decided just so.
		if first {
			s.bring("6 12 10 3")
			s.way(123)
			s.loseAll("9 ")
			s.bring("5 11 12 4", "6 12 11 4")
		} else {
			s.bring("5 11 12 4", "6 12 11 4")
			s.way(123)
			s.loseAll("9 ")
			s.bring("6 12 10 3")
		}
		for _, r := range s.world.Reps[:2] {
			if len(r.Chosen) != 1 || !slices.Equal(r.Chosen[0].Votes, []int{1, -1}) {
				t.Fatal(worldText(s.world))
			}
		}
		s.ends(123, 0)
	}
}

// All that is heard is heard twice, and again at the end: nothing is done twice, and nothing else is decided.
func TestP62HeardTwice(t *testing.T) {
	t.Parallel()
	s := stageOf(t, "echo a >> f; cat f | grep a >> f; false", impl.PolicyMost, 2)
	var heard []string
	for rounds := 0; !impl.WorldDone(s.world); rounds++ {
		if rounds == 40 {
			t.Fatal(worldText(s.world))
		}
		for _, at := range []int{0, 1, 10, 11, 12} {
			s.tick(at, 1)
		}
		for range 200 {
			if len(s.world.Radio) == 0 {
				break
			}
			heard = append(heard, s.world.Radio[0])
			s.does(true, impl.WorldKeep, 0, 0)
			s.does(true, impl.WorldBring, 0, 0)
		}
	}
	s.way(0, 0, 1)
	for _, a := range s.world.Agents {
		if a.Log != logText("i 0", "d 0", "c 0 0", "i 1", "d 1", "c 1 0", "i 2", "d 2", "c 2 1") || a.Mach.Box.Files[0].Text != "a\na\n" {
			t.Fatalf("%+v", a)
		}
	}
	done := s.world
	for from := 0; from < len(heard); from += 40 {
		s.world.Radio = slices.Clone(heard[from:min(len(heard), from+40)])
		for len(s.world.Radio) > 0 && len(s.world.Radio) < 45 {
			s.does(true, impl.WorldBring, 0, 0)
		}
	}
	if s.way(0, 0, 1); !slices.EqualFunc(s.world.Agents, done.Agents, sameAgent) || len(heard) < 60 {
		t.Fatal(len(heard), worldText(s.world))
	}
}

// Agent 2 and 12 fall, and rise while others went on: they go the same way.
func TestP62RisesWhileOthersGoOn(t *testing.T) {
	t.Parallel()
	for _, bytes := range []int{0, 3, 6, 8, 12} {
		s := stageOf(t, "echo a > f; false; cat f; rm f", impl.PolicyMost, 3)
		s.does(true, impl.WorldFall, 2, bytes)
		s.does(true, impl.WorldFall, 12, bytes)
		for range 40 {
			for _, at := range []int{0, 1, 10, 11} {
				s.tick(at, 1)
			}
			for len(s.world.Radio) > 0 {
				s.does(true, impl.WorldBring, 0, 0)
			}
		}
		s.way(0, 1, 0, 0)
		if a := s.world.Agents; a[0].Mach.Inst != 4 || a[1].Mach.Inst != 4 || a[2].Up || len(votesKnown(3, s.world.Reps[2].Log)) != 0 {
			t.Fatal(worldText(s.world))
		}
		s.does(true, impl.WorldRise, 2, 0)
		for inst := range 4 {
			s.tick(2, 1)
			s.isUnder(fmt.Sprintf("1 2 10 0 %d %[2]d - | 1 2 11 0 %[1]d %[2]d - | 1 2 12 0 %[1]d %[2]d -", inst, s.world.Agents[2].Mach.Stats[inst]))
			s.bring("1 2 12", "1 2 11", "1 2 10", fmt.Sprintf("9 11 2 0 %d", inst), fmt.Sprintf("9 10 2 0 %d", inst))
			if s.world.Agents[2].Mach.Inst != inst+1 {
				t.Fatal(worldText(s.world))
			}
		}
		s.does(true, impl.WorldRise, 12, 0)
		s.tick(10, 1)
		s.loseAll("7 10 11")
		for inst := range 4 {
			s.bring("7 10 12", fmt.Sprintf("8 12 10 0 %d", inst), fmt.Sprintf("9 10 12 0 %d", inst))
			s.tick(10, 1)
			s.loseAll("7 10 11")
		}
		if len(s.world.Reps[2].Chosen) != 4 || s.world.Agents[2].Mach.Last != 0 {
			t.Fatal(worldText(s.world))
		}
		s.ends(0, 1, 0, 0)
	}
}

// manner is how often what happens in a play. As long as enough is under way, it is rather brought than more told; the first one who decides is asked more often than the others, so that something is decided.
type manner struct {
	bring, tick, keep, lose, spoil, fallHear, fall, rise int

	enough, first, far int
	// 10 and 11 hear nothing of each other, and so both may lead.
	apart bool
}

// manners are quiet ones, in which much is decided, and wild ones; the last one has two that would lead.
func manners() []manner {
	return []manner{
		{bring: 60, tick: 40, keep: 1, lose: 1, rise: 2, enough: 2, first: 95, far: 1},
		{bring: 60, tick: 40, keep: 6, lose: 2, spoil: 1, fallHear: 1, fall: 1, rise: 6, enough: 3, first: 80, far: 2},
		{bring: 45, tick: 40, keep: 4, lose: 4, spoil: 2, fallHear: 1, fall: 1, rise: 10, enough: 8, first: 50, far: 20},
		{bring: 45, tick: 30, lose: 2, fallHear: 5, fall: 5, rise: 50, enough: 4, first: 60, far: 3},
		{bring: 60, tick: 40, keep: 1, enough: 3, first: 50, far: 4, apart: true},
	}
}

// event is something that often can be.
func (m manner) event(dice *rand.Rand, w impl.World) impl.Event {
	if len(w.Radio) >= m.enough {
		m.tick /= 10
	}
	parts := []int{m.tick, m.bring, m.keep, m.lose, m.spoil, m.fallHear, m.fall, m.rise}
	roll := dice.IntN(m.tick + m.bring + m.keep + m.lose + m.spoil + m.fallHear + m.fall + m.rise)
	e := impl.Event{Kind: 1, Num: dice.IntN(20) - 1}
	for roll >= parts[e.Kind-1] {
		roll -= parts[e.Kind-1]
		e.Kind++
	}
	if len(w.Radio) == 0 && e.Kind == 2 && dice.IntN(5) > 0 {
		e.Kind = 1
	}
	if e.Kind >= 2 && e.Kind <= 6 {
		e.At = dice.IntN(max(1, min(len(w.Radio), m.far)))
		if m.apart && e.At < len(w.Radio) && isBetween(w.Radio[e.At], 10, 11) {
			e.Kind = impl.WorldLose
		}
		return e
	}
	e.At = dice.IntN(len(w.Agents))
	if dice.IntN(5) > 1 {
		e.At = 10
		if dice.IntN(100) >= m.first {
			e.At += 1 + dice.IntN(2)
		}
	}
	if up, _ := townOf(w).isUp(e.At); e.Kind == 8 && up {
		e.At = []int{0, len(w.Agents) - 1, 10, 11, 12}[dice.IntN(5)]
	}
	return e
}

func isBetween(text string, one int, two int) bool {
	m, ok := msgMeant(text)
	return ok && (m.From == one && m.To == two || m.From == two && m.To == one)
}

// play is a world that things happened to.
type play struct {
	code   []impl.Op
	policy int
	many   int
	list   []impl.Event
	end    impl.World
}

// playOf lets things happen to the second world, so that more of them can be.
func playOf(dice *rand.Rand, code []impl.Op, m manner, events int) play {
	p := play{code: code, policy: 1 + dice.IntN(3), many: 1 + dice.IntN(3)}
	a := newTown(code, p.policy, p.many)
	for range events {
		e := m.event(dice, a.World)
		p.list = append(p.list, e)
		a.event(e)
	}
	p.end = a.World
	return p
}

// playScripts are scripts that go here and there by what is decided.
func playScripts() []string {
	return []string{
		"echo a >> f; false || cat f; rm f",
		"n=1; while test $n -lt 4; do n=$((n+1)); echo $n >> f; done; sort f",
		"while true; do false || echo $?; done",
		"if test -f f; then rm f; else echo a > f; fi; case $? in 0) cat f;; 12*) echo lost;; *) false;; esac; echo $? > g",
		"for i in a b c; do until test $i != b; do i=x; done; echo $i | wc; done; none",
		"true",
	}
}

// somePlays are plays of each manner.
func somePlays(t *testing.T, seed uint64, many int) []play {
	dice := newDice(seed)
	var list []play
	for number := range many {
		code := codeOf(t, pick(dice, playScripts()))
		if dice.IntN(4) == 0 {
			code = randomProgram(dice)
		}
		list = append(list, playOf(dice, code, manners()[number%5], impl.PlayMax))
	}
	return list
}

func (p play) world() impl.World {
	return impl.WorldPlay(p.code, p.policy, p.many, p.list)
}

func (p play) String() string {
	return fmt.Sprintf("%+v by %d of %d: %v", p.code, p.policy, p.many, p.list)
}

// checkLogs asks what the logs of a world tell (P63).
func checkLogs(t *testing.T, w impl.World) {
	t.Helper()
	var known [][][]int
	for _, r := range w.Reps {
		known = append(known, votesKnown(len(w.Agents), r.Log))
	}
	var longest [][]int
	for _, votes := range known {
		for inst := range min(len(votes), len(longest)) {
			if !slices.Equal(votes[inst], longest[inst]) {
				t.Fatalf("two votes of %d: %s", inst, worldText(w))
			}
		}
		if len(votes) > len(longest) {
			longest = votes
		}
	}
	for id, a := range w.Agents {
		records, _ := readAs(a.Log)
		s, ok := storyOf(w.Code, records)
		took := tookOf(a.Log)
		if !ok || len(took) > len(longest) {
			t.Fatalf("%d: %v of %v: %s", id, took, longest, worldText(w))
		}
		for inst, votes := range longest {
			if inst < len(took) && took[inst] != impl.Policy(w.Policy, votes) || votes[id] != -1 && votes[id] != s.mach.Stats[inst] {
				t.Fatalf("%d: %v of %v: %s", id, took, longest, worldText(w))
			}
		}
	}
}

// checkMachs asks what each agent has done, risen, if it is not up (P65), and counts those that did one more than is decided.
func checkMachs(t *testing.T, w impl.World) int {
	t.Helper()
	more := 0
	for _, a := range w.Agents {
		a = impl.AgentRise(w.Code, a)
		records, _ := readAs(a.Log)
		last := ""
		var cuts []int
		for _, record := range records {
			if parts := strings.Fields(record); parts[0] == "x" {
				cuts = append(cuts, mustNum(parts[1]))
			}
			last = record[:1]
		}
		took := tookOf(a.Log)
		want := impl.MachAll(w.Code, took, cuts)
		switch last {
		case "d":
			want = impl.MachRun(w.Code, want)
			more++
		case "x":
			want = impl.MachSkip(w.Code, want)
			more++
		}
		if !a.Up || !sameMach(a.Mach, want) || !sameMach(a.Mach, storyMach(w.Code, records)) {
			t.Fatalf("%+v, not %+v", a, want)
		}
	}
	return more
}

func storyMach(code []impl.Op, records []string) impl.Mach {
	s, _ := storyOf(code, records)
	return s.mach
}

func TestP61Plays(t *testing.T) {
	t.Parallel()
	cannot := 0
	for _, p := range somePlays(t, 61, 80) {
		list, untouched := guarded(t, p.list, impl.Event{Kind: 2})
		code, codeUntouched := guarded(t, p.code, runs("mark"))
		played := impl.WorldPlay(code, p.policy, p.many, list)
		untouched("WorldPlay")
		codeUntouched("WorldPlay")
		w := impl.WorldNew(p.code, p.policy, p.many)
		for number, e := range p.list {
			next, could := impl.WorldDo(w, e)
			if !could {
				cannot++
				if !sameWorld(next, w) {
					t.Fatalf("%d of %s: %s", number, p, worldText(next))
				}
			}
			if number%9 == 0 && !sameWorld(impl.WorldPlay(p.code, p.policy, p.many, p.list[:number]), w) {
				t.Fatalf("%d of %s: %s", number, p, worldText(w))
			}
			w = next
		}
		if !sameWorld(played, w) || !sameWorld(played, p.end) {
			t.Fatalf("%s: %s, not %s", p, worldText(played), worldText(w))
		}
	}
	if cannot < 200 {
		t.Error(cannot)
	}
}

func TestP61PlayMax(t *testing.T) {
	t.Parallel()
	code := codeOf(t, "while true; do true; done")
	// Events that cannot be count, too.
	for _, e := range []impl.Event{{Kind: 1, At: 12}, {Kind: 0}, {Kind: 2, At: -1}, {Kind: 8, At: 10}} {
		for _, many := range []int{0, 1, 79, 80, 81, 200} {
			list := append(slices.Repeat([]impl.Event{e}, many), impl.Event{Kind: 1})
			w := impl.WorldPlay(code, impl.PolicyAll, 1, list)
			if ticked := w.Agents[0].Log != ""; ticked != (many < 80) || !impl.WorldOk(w) {
				t.Errorf("%d %+v: %s", many, e, worldText(w))
			}
			if many > 80 && !sameWorld(w, impl.WorldPlay(code, impl.PolicyAll, 1, list[:80])) {
				t.Errorf("%d %+v: %s", many, e, worldText(w))
			}
		}
	}
	for _, wrong := range wrongCodes() {
		for _, list := range [][]impl.Event{nil, {{Kind: 1}}, {{Kind: 8, At: 10}, {Kind: 2}}} {
			if w := impl.WorldPlay(wrong, impl.PolicyAll, 1, list); !sameWorld(w, impl.World{}) {
				t.Errorf("%+v: %s", wrong, worldText(w))
			}
		}
	}
	for _, wrong := range [][2]int{{0, 1}, {4, 1}, {1, 0}, {1, 4}, {-1, -1}} {
		if w := impl.WorldPlay(code, wrong[0], wrong[1], []impl.Event{{Kind: 1}}); !sameWorld(w, impl.World{}) {
			t.Errorf("%v: %s", wrong, worldText(w))
		}
	}
}

// seenIn counts what happened in a play: how often two lead at once, messages are late, doubled, lost and spoilt, agents and those who decide fall and rise.
func seenIn(p play, seen map[string]int) {
	a := newTown(p.code, p.policy, p.many)
	for _, e := range p.list {
		was := len(a.way())
		text := ""
		if e.Kind >= 2 && e.Kind <= 6 && e.At < len(a.Radio) {
			text = a.Radio[e.At]
		}
		if !a.event(e) {
			continue
		}
		seen[fmt.Sprint("kind ", e.Kind)]++
		if strings.Contains(text, "\xff") {
			seen["spoilt brought"]++
		}
		if e.At > 0 && e.Kind == 2 {
			seen["late"]++
		}
		leading := 0
		for _, r := range a.Reps {
			if r.Lead > 0 && len(r.Yes) > 1 {
				leading++
			}
		}
		if leading > 1 {
			seen["two lead"]++
		}
		seen["decided"] += len(a.way()) - was
	}
}

func TestP62Plays(t *testing.T) {
	t.Parallel()
	seen := map[string]int{}
	for _, p := range somePlays(t, 62, 400) {
		w := p.world()
		if !checkWorld(t, w) || !impl.WorldSafe(w) {
			t.Fatalf("%s: %s", p, worldText(w))
		}
		seenIn(p, seen)
	}
	for what, least := range map[string]int{"kind 1": 3000, "kind 2": 3000, "kind 3": 300, "kind 4": 200, "kind 5": 100, "kind 6": 100, "kind 7": 200, "kind 8": 200, "spoilt brought": 30, "late": 1000, "two lead": 30, "decided": 200} {
		if seen[what] < least {
			t.Error(what, seen)
		}
	}
}

func TestP63Logs(t *testing.T) {
	t.Parallel()
	took := 0
	for _, p := range somePlays(t, 63, 200) {
		w := p.world()
		checkLogs(t, w)
		for _, a := range w.Agents {
			took += len(tookOf(a.Log))
		}
	}
	if took < 100 {
		t.Error(took)
	}
}

func TestP65Machs(t *testing.T) {
	t.Parallel()
	more := 0
	for _, p := range somePlays(t, 65, 200) {
		more += checkMachs(t, p.world())
	}
	if more < 100 {
		t.Error(more)
	}
}

// Also in worlds to which more happens than to any that is played.
func TestP62LongWorlds(t *testing.T) {
	t.Parallel()
	dice := newDice(622)
	decided := 0
	for number := range 24 {
		w := impl.WorldNew(codeOf(t, playScripts()[number%5]), 1+number%3, 1+dice.IntN(3))
		for range 400 {
			next, _ := impl.WorldDo(w, manners()[dice.IntN(5)].event(dice, w))
			if !startsWith(impl.WorldWay(next), impl.WorldWay(w)) {
				t.Fatalf("%s", worldText(next))
			}
			w = next
		}
		if !checkWorld(t, w) || !impl.WorldSafe(w) {
			t.Fatalf("%s", worldText(w))
		}
		checkLogs(t, w)
		checkMachs(t, w)
		decided += len(impl.WorldWay(w))
		ends(t, w)
	}
	if decided < 60 {
		t.Error(decided)
	}
}

// ends asks what 90 rounds come to (P66).
func ends(t *testing.T, w impl.World) impl.World {
	t.Helper()
	x := impl.WorldCalm(w, 90)
	if !impl.WorldOk(x) || !impl.WorldDone(x) || !impl.WorldSafe(x) || !startsWith(impl.WorldWay(x), impl.WorldWay(w)) {
		t.Fatalf("%s behind %s", worldText(x), worldText(w))
	}
	checkLogs(t, x)
	checkMachs(t, x)
	return x
}

func TestP64Ways(t *testing.T) {
	t.Parallel()
	grown := 0
	for _, p := range somePlays(t, 64, 60) {
		way := impl.WorldWay(p.world())
		last := 0
		for first := range p.list {
			ahead := impl.WorldWay(impl.WorldPlay(p.code, p.policy, p.many, p.list[:first]))
			if !startsWith(way, ahead) || len(ahead) < last {
				t.Fatalf("%d of %s: %v, then %v", first, p, ahead, way)
			}
			if len(ahead) > last {
				grown++
			}
			last = len(ahead)
		}
	}
	if grown < 30 {
		t.Error(grown)
	}
}

func TestP66Plays(t *testing.T) {
	t.Parallel()
	undone := 0
	for _, p := range somePlays(t, 66, 80) {
		w := p.world()
		if !impl.WorldDone(w) {
			undone++
		}
		ends(t, w)
	}
	if undone < 60 {
		t.Error(undone)
	}
}

// With a radio that is full of what is old or can't be read, all come to their end, too.
func TestP66FullRadio(t *testing.T) {
	t.Parallel()
	dice := newDice(666)
	for _, p := range somePlays(t, 667, 8) {
		w := p.world()
		for len(w.Radio) < 50 {
			w.Radio = append(w.Radio, []string{"", "\xff", sealed("9 10 2 0 12 - -"), sealed("7 10 11 1 0 - -"), sealed("3 10 11 1 0 - -")}[dice.IntN(5)])
		}
		ends(t, w)
	}
}

func TestP67AtTheEnd(t *testing.T) {
	t.Parallel()
	for _, p := range somePlays(t, 67, 16) {
		w := impl.WorldCalm(p.world(), 60)
		for !impl.WorldDone(w) {
			w = impl.WorldCalm(w, 10)
		}
		for _, rounds := range []int{1, 2, 30} {
			if x := impl.WorldCalm(w, rounds); !slices.EqualFunc(x.Agents, w.Agents, sameAgent) || !impl.WorldDone(x) || !impl.WorldSafe(x) {
				t.Fatalf("%s, then %s", worldText(w), worldText(x))
			}
		}
		// Who fell is no more at its end until it rose.
		for id := range w.Agents {
			fallen, could := impl.WorldDo(w, impl.Event{Kind: impl.WorldFall, At: id, Num: 5})
			if risen := impl.WorldCalm(fallen, 1); !could || impl.WorldDone(fallen) || !impl.WorldSafe(fallen) || !slices.EqualFunc(risen.Agents, w.Agents, sameAgent) {
				t.Fatalf("%s, then %s", worldText(fallen), worldText(risen))
			}
		}
	}
}

func TestP68Rounds(t *testing.T) {
	t.Parallel()
	for _, p := range somePlays(t, 68, 6) {
		w := p.world()
		all := []impl.World{w}
		for rounds := 1; rounds <= 24; rounds++ {
			all = append(all, checkCalm(t, all[rounds-1], 1))
		}
		for _, first := range []int{0, 1, 5, 11} {
			for _, second := range []int{0, 1, 2, 13} {
				if x := impl.WorldCalm(all[first], second); !sameWorld(x, all[first+second]) {
					t.Fatalf("%d and %d: %s, not %s", first, second, worldText(x), worldText(all[first+second]))
				}
			}
		}
		checkCalm(t, w, 17)
		for _, none := range []int{0, -1, -100, -1 << 63} {
			if x := impl.WorldCalm(w, none); !sameWorld(x, w) {
				t.Fatalf("%d: %s, not %s", none, worldText(x), worldText(w))
			}
		}
	}
}

func TestP68CalmMax(t *testing.T) {
	t.Parallel()
	// Nobody can begin, as there is no greater ballot. So all wait, each in a circle of its own length, and each round is to be seen.
	w := impl.WorldNew(codeOf(t, "while true; do true; done"), impl.PolicyAll, 1)
	w.Reps[0].Seen, w.Reps[1].Seen, w.Reps[2].Seen = 9999, 9999, 9999
	all := impl.WorldCalm(w, 100)
	if almost := impl.WorldCalm(w, 99); sameWorld(almost, all) || !sameWorld(impl.WorldCalm(almost, 1), all) {
		t.Error(worldText(almost), worldText(all))
	}
	for _, rounds := range []int{101, 102, 200, 1 << 40, 1<<63 - 1} {
		if x := checkCalm(t, w, rounds); !sameWorld(x, all) {
			t.Errorf("%d: %s, not %s", rounds, worldText(x), worldText(all))
		}
	}
}

// Of 50 messages that are under way each lets another one be told, and that one yet another one: all 150 are brought in one round. No world has DrainMax of them.
func TestP68Drains(t *testing.T) {
	t.Parallel()
	w := impl.WorldNew(codeOf(t, "true"), impl.PolicyAll, 1)
	log := ""
	for inst := range 12 {
		log += recordText(fmt.Sprint("k ", inst, " -1"))
	}
	w.Reps[0] = impl.RepRise(1, impl.Rep{Id: 10, Log: log})
	w.Radio = slices.Repeat([]string{sealed("7 10 11 5 12 - -")}, 50)
	s := &stage{t: t, world: w}
	for _, many := range []int{50, 50, 0} {
		for range 50 {
			s.does(true, impl.WorldBring, 0, 0)
		}
		if len(s.world.Radio) != many {
			t.Fatalf("%d: %s", many, s.under())
		}
	}
	if x := checkCalm(t, w, 1); len(x.Radio) != 0 || len(x.Reps[1].Chosen) != 1 || x.Agents[0].Mach.Inst != 1 {
		t.Fatal(worldText(x))
	}
}

func TestP69New(t *testing.T) {
	t.Parallel()
	dice := newDice(69)
	codes := someCodes(t)
	for range 14 {
		codes = append(codes, randomProgram(dice))
	}
	for _, script := range playScripts() {
		codes = append(codes, codeOf(t, script))
	}
	for number, code := range codes {
		policy, many := 1+number%3, 1+number/3%3
		w := impl.WorldNew(code, policy, many)
		x := ends(t, w)
		way := impl.WorldWay(x)
		for _, a := range x.Agents {
			if !sameMach(a.Mach, impl.MachAll(code, way, nil)) || !slices.Equal(a.Mach.Stats, way) || !sameMach(a.Mach, allDone(code, way, nil)) {
				t.Fatalf("%+v by %d: %v, %+v", code, policy, way, a)
			}
		}
	}
}

// worldParts are all lists of a world.
func worldParts(w impl.World) []part {
	var parts []part
	texts := func(name string, list []string) {
		parts = append(parts, part{0, name, func() { fillUp(list, "mark") }, func() string { return fmt.Sprintf("%q", list) }})
	}
	parts = append(parts, part{0, "Code;", func() { fillUp(w.Code, runs("mark")) }, func() string { return fmt.Sprint(w.Code) }})
	texts("Radio;", w.Radio)
	ids := func(count int, id func(at int) int) string {
		text := ""
		for at := range count {
			text += fmt.Sprint(id(at), " ")
		}
		return text
	}
	parts = append(parts, part{0, "Agents;", func() { fillUp(w.Agents, impl.Agent{Id: 77}) }, func() string { return ids(len(w.Agents), func(at int) int { return w.Agents[at].Id }) }})
	parts = append(parts, part{0, "Reps;", func() { fillUp(w.Reps, impl.Rep{Id: 77}) }, func() string { return ids(len(w.Reps), func(at int) int { return w.Reps[at].Id }) }})
	for id, a := range w.Agents {
		m := a.Mach
		texts(fmt.Sprint("Outs", id, ";"), m.Outs)
		parts = append(parts, part{0, fmt.Sprint("Stats", id, ";"), func() { fillUp(m.Stats, 99) }, func() string { return fmt.Sprint(m.Stats) }})
		parts = append(parts, part{0, fmt.Sprint("Files", id, ";"), func() { fillUp(m.Box.Files, impl.File{Name: "mark"}) }, func() string { return fmt.Sprint(m.Box.Files) }})
		parts = append(parts, part{0, fmt.Sprint("Vars", id, ";"), func() { fillUp(m.Box.Vars, impl.Var{Name: "mark"}) }, func() string { return fmt.Sprint(m.Box.Vars) }})
	}
	for _, r := range w.Reps {
		for _, one := range listsOf(r, nil) {
			one.name = fmt.Sprint("rep ", r.Id, " ", one.name)
			parts = append(parts, one)
		}
	}
	return parts
}

func TestWorldAnswersAreNew(t *testing.T) {
	t.Parallel()
	var worlds []impl.World
	for _, p := range append(somePlays(t, 700, 4), playOf(newDice(701), codeOf(t, "x=1; for i in a b; do echo $i >> f; done; cat f"), manners()[0], 80)) {
		w := p.world()
		worlds = append(worlds, w, impl.WorldCalm(w, 7))
	}
	for _, w := range worlds {
		for name, answer := range map[string]func(w impl.World) impl.World{
			"WorldNew": func(w impl.World) impl.World { return impl.WorldNew(w.Code, w.Policy, len(w.Agents)) },
			"WorldPlay": func(w impl.World) impl.World {
				return impl.WorldPlay(w.Code, w.Policy, len(w.Agents), []impl.Event{{Kind: 1}, {Kind: 1, At: 10}, {Kind: 2}})
			},
			"no WorldDo": func(w impl.World) impl.World { next, _ := impl.WorldDo(w, impl.Event{}); return next },
			"tick":       func(w impl.World) impl.World { next, _ := impl.WorldDo(w, impl.Event{Kind: 1, At: 10}); return next },
			"bring":      func(w impl.World) impl.World { next, _ := impl.WorldDo(w, impl.Event{Kind: 2}); return next },
			"spoil":      func(w impl.World) impl.World { next, _ := impl.WorldDo(w, impl.Event{Kind: 5}); return next },
			"fall":       func(w impl.World) impl.World { next, _ := impl.WorldDo(w, impl.Event{Kind: 7, At: 11}); return next },
			"rise":       func(w impl.World) impl.World { next, _ := impl.WorldDo(w, impl.Event{Kind: 8, At: 11}); return next },
			"WorldCalm":  func(w impl.World) impl.World { return impl.WorldCalm(w, 1) },
			"no rounds":  func(w impl.World) impl.World { return impl.WorldCalm(w, 0) },
		} {
			given, untouched := guardedWorld(t, w)
			want := answer(given)
			for at, one := range worldParts(want) {
				first := worldParts(answer(given))
				first[at].fill()
				for i, other := range worldParts(want) {
					if i != at && !strings.HasPrefix(first[i].name, first[at].name) && first[i].text() != other.text() {
						t.Fatalf("%s of %s: %s shares with %s", name, worldText(w), other.name, one.name)
					}
				}
			}
			untouched("an answer of " + name)
			if again := answer(given); !sameWorld(again, want) {
				t.Fatalf("%s of %s: an answer is shared: %s", name, worldText(w), worldText(again))
			}
		}
		way := impl.WorldWay(w)
		fillUp(impl.WorldWay(w), 99)
		if !slices.Equal(impl.WorldWay(w), way) {
			t.Errorf("a way is shared")
		}
	}
}

func TestWorldLeavesNobodyBehind(t *testing.T) {
	before := runtime.NumGoroutine()
	code := codeOf(t, "while echo a | cat | cat; do echo $((1/0)) | cat; cat | none | true; done")
	for many := range 5 {
		w := impl.WorldNew(code, impl.PolicyAll, many)
		for _, at := range []int{0, 2, 3, 10, 12, 13, -1} {
			for kind := range 10 {
				next, _ := impl.WorldDo(w, impl.Event{Kind: kind, At: at, Num: 5})
				impl.WorldCalm(next, 2)
				impl.WorldDone(next)
				impl.WorldSafe(next)
				impl.WorldWay(next)
			}
		}
		impl.WorldPlay(code, impl.PolicyAny, many, []impl.Event{{Kind: 1}, {Kind: 1, At: 10}, {Kind: 7, At: 0}, {Kind: 2}, {Kind: 9}})
		impl.WorldCalm(w, 100)
	}
	settled(t, before)
}
