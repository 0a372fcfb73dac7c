package tests

import (
	"fmt"
	"math/rand/v2"
	"runtime"
	"slices"
	"strconv"
	"strings"
	"testing"

	"loop.example/fugleman/impl"
)

// story is what an agent's records tell: its machine, and whether something is open.
type story struct {
	mach impl.Mach
	open bool
}

// storyOf is what records tell, and whether they can be one behind the other.
func storyOf(code []impl.Op, records []string) (story, bool) {
	s := story{mach: goneOn(code, impl.Mach{})}
	for _, record := range records {
		if !s.goesOn(code, record) {
			return s, false
		}
	}
	return s, true
}

// goesOn goes on by a record, if it is one of those that can come next.
func (s *story) goesOn(code []impl.Op, record string) bool {
	inst := strconv.Itoa(s.mach.Inst)
	switch record {
	case "i " + inst:
		if s.open || !machWaits(code, s.mach) {
			return false
		}
		s.open = true
		return true
	case "d " + inst, "x " + inst:
		if !s.open {
			return false
		}
		s.open = false
		if record[0] == 'x' {
			s.mach = done(s.mach, "", 126)
		} else {
			s.mach = ran(code, s.mach)
		}
		return true
	}
	for status := range 128 {
		if record == fmt.Sprint("c ", inst, " ", status) && !s.open && len(s.mach.Stats) > s.mach.Inst {
			s.mach = decided(code, s.mach, status)
			return true
		}
	}
	return false
}

func machWaits(code []impl.Op, m impl.Mach) bool {
	return !standsAtEnd(code, m) && len(m.Stats) == m.Inst
}

func sameAgent(a impl.Agent, b impl.Agent) bool {
	return a.Id == b.Id && a.Log == b.Log && a.Up == b.Up && sameMach(a.Mach, b.Mach)
}

func sameMsgs(a []impl.Msg, b []impl.Msg) bool {
	return slices.EqualFunc(a, b, sameMsg)
}

// agentFits says whether an agent is as the document asks.
func agentFits(code []impl.Op, a impl.Agent) bool {
	if !impl.CodeOk(code) || a.Id < 0 || a.Id > 2 || len(a.Log) > 6000 {
		return false
	}
	records, size := readAs(a.Log)
	s, ok := storyOf(code, records)
	if !a.Up {
		return ok && isNothing(a.Mach)
	}
	return ok && size == len(a.Log) && !s.open && sameMach(a.Mach, s.mach)
}

// agentTicked is an agent, that is up, behind a tick, and what it tells.
func agentTicked(code []impl.Op, a impl.Agent) (impl.Agent, []impl.Msg) {
	inst := a.Mach.Inst
	if machWaits(code, a.Mach) {
		a.Log += recordText(fmt.Sprint("i ", inst)) + recordText(fmt.Sprint("d ", inst))
		a.Mach = ran(code, a.Mach)
	}
	var told []impl.Msg
	for to := 10; to <= 12 && len(a.Mach.Stats) > inst; to++ {
		told = append(told, impl.Msg{Kind: 1, From: a.Id, To: to, Inst: inst, Votes: a.Mach.Stats[inst:]})
	}
	return a, told
}

// agentHeard is an agent, that is up, behind a message.
func agentHeard(code []impl.Op, policy int, a impl.Agent, m impl.Msg) impl.Agent {
	inst := a.Mach.Inst
	if policy < 1 || policy > 3 || !msgFits(m) || m.Kind != 9 || m.To != a.Id || m.From < 10 || m.Inst != inst || len(a.Mach.Stats) == inst || len(m.Votes) == 0 {
		return a
	}
	status := impl.Policy(policy, m.Votes)
	a.Log += recordText(fmt.Sprint("c ", inst, " ", status))
	a.Mach = decided(code, a.Mach, status)
	return a
}

// agentFallen is an agent, that is up, behind a fall.
func agentFallen(code []impl.Op, policy int, a impl.Agent, m impl.Msg, bytes int) impl.Agent {
	longer, _ := agentTicked(code, a)
	if m.Kind != 0 {
		longer = agentHeard(code, policy, a, m)
	}
	added := len(longer.Log) - len(a.Log)
	return impl.Agent{Id: a.Id, Log: longer.Log[:len(a.Log)+max(0, min(bytes, added))]}
}

// agentRisen is an agent, that is not up, up again.
func agentRisen(code []impl.Op, a impl.Agent) impl.Agent {
	records, size := readAs(a.Log)
	s, _ := storyOf(code, records)
	log := a.Log[:size]
	if s.open {
		log += recordText(fmt.Sprint("x ", s.mach.Inst))
		s.mach = done(s.mach, "", 126)
	}
	return impl.Agent{Id: a.Id, Log: log, Up: true, Mach: s.mach}
}

// agentAnswers are all answers of one agent.
type agentAnswers struct {
	ok     bool
	ticked impl.Agent
	told   []impl.Msg
	heard  impl.Agent
	fallen impl.Agent
	risen  impl.Agent
}

// askAgent asks for all answers of one agent, its parts being guarded.
func askAgent(t *testing.T, code []impl.Op, policy int, a impl.Agent, m impl.Msg, bytes int) agentAnswers {
	t.Helper()
	givenCode, codeUntouched := guarded(t, code, runs("mark"))
	given, msgUntouched := guardedMsg(t, m)
	mach, machUntouched := guardedMach(t, a.Mach)
	a.Mach = mach
	var all agentAnswers
	all.ok = impl.AgentOk(givenCode, a)
	all.ticked, all.told = impl.AgentTick(givenCode, a)
	all.heard = impl.AgentHear(givenCode, policy, a, given)
	all.fallen = impl.AgentFall(givenCode, policy, a, given, bytes)
	all.risen = impl.AgentRise(givenCode, a)
	codeUntouched("an agent")
	msgUntouched("an agent")
	machUntouched("an agent")
	return all
}

// agentMeant are all answers that one agent must give.
func agentMeant(code []impl.Op, policy int, a impl.Agent, m impl.Msg, bytes int) agentAnswers {
	if !agentFits(code, a) {
		return agentAnswers{}
	}
	all := agentAnswers{ok: true, ticked: a, heard: a, fallen: a, risen: a}
	if !a.Up {
		all.risen = agentRisen(code, a)
		return all
	}
	all.ticked, all.told = agentTicked(code, a)
	all.heard = agentHeard(code, policy, a, m)
	all.fallen = agentFallen(code, policy, a, m, bytes)
	return all
}

func sameAgentAnswers(a agentAnswers, b agentAnswers) bool {
	return a.ok == b.ok && sameAgent(a.ticked, b.ticked) && sameMsgs(a.told, b.told) && sameAgent(a.heard, b.heard) && sameAgent(a.fallen, b.fallen) && sameAgent(a.risen, b.risen)
}

// checkAgent holds all answers of one agent against what they must be, and says whether it is ok.
func checkAgent(t *testing.T, code []impl.Op, policy int, a impl.Agent, m impl.Msg, bytes int) bool {
	t.Helper()
	is, want := askAgent(t, code, policy, a, m, bytes), agentMeant(code, policy, a, m, bytes)
	if !sameAgentAnswers(is, want) {
		t.Fatalf("%+v with %+v, %d, %+v and %d bytes: %+v, not %+v", a, code, policy, m, bytes, is, want)
	}
	if !is.ok {
		return false
	}
	for _, next := range []impl.Agent{is.ticked, is.heard, is.fallen, is.risen} {
		if !impl.AgentOk(code, next) {
			t.Fatalf("%+v with %+v, %d, %+v and %d bytes: not ok: %+v", a, code, policy, m, bytes, next)
		}
	}
	for _, msg := range is.told {
		if !impl.MsgOk(msg) {
			t.Fatalf("%+v with %+v: not ok: %+v", a, code, msg)
		}
	}
	return true
}

// chosen is a message that tells what was decided.
func chosen(to int, inst int, votes ...int) impl.Msg {
	return impl.Msg{Kind: impl.MsgChosen, From: 10 + (to+inst)%3, To: to, Inst: inst, Votes: votes}
}

// writtenBehind is what one writes behind a log.
func writtenBehind(t *testing.T, log string, longer string) string {
	t.Helper()
	if !strings.HasPrefix(longer, log) {
		t.Fatalf("%q does not begin with %q", longer, log)
	}
	return longer[len(log):]
}

// logText is a log of these records.
func logText(records ...string) string {
	log := ""
	for _, record := range records {
		log += recordText(record)
	}
	return log
}

// agentBy is an agent, up, with these records.
func agentBy(t *testing.T, code []impl.Op, id int, records ...string) impl.Agent {
	t.Helper()
	a := impl.AgentRise(code, impl.Agent{Id: id, Log: logText(records...)})
	if a.Log != logText(records...) || !a.Up {
		t.Fatalf("%q: %+v", records, a)
	}
	return a
}

// somePlaces are numbers of bytes: all that there may be, and far ones.
func somePlaces(added int) []int {
	return append(countFrom(-2, added+5), -1<<63, -1000, 1000, 1<<62, 1<<63-1)
}

// randomBytes is a number of bytes of which some, none or all are kept.
func randomBytes(dice *rand.Rand) int {
	return []int{dice.IntN(14), dice.IntN(30), -1, 0, 6, 1000}[dice.IntN(6)]
}

// randomHearing is a message that an agent may hear, often the one that it waits for.
func randomHearing(dice *rand.Rand, a impl.Agent) impl.Msg {
	m := chosen(a.Id, a.Mach.Inst, randomVotes(dice, 1)...)
	switch dice.IntN(12) {
	case 0:
		m.Inst = dice.IntN(13)
	case 1:
		m.To = dice.IntN(3)
	case 2:
		m.From = []int{0, 1, 2, 10, 11, 12}[dice.IntN(6)]
	case 3:
		m.Kind = dice.IntN(11)
	case 4:
		m.Votes = randomVotes(dice, 0)
	case 5:
		m.Ballot = []int{-1, 0, 5, 9999, 10000}[dice.IntN(5)]
	case 6:
		m.Votes = append(m.Votes, -2)
	case 7:
		m.List = []impl.Entry{{Inst: 11, Ballot: dice.IntN(2), Votes: []int{0}}}
	case 8:
		return randomMsg(dice)
	}
	return m
}

// randomAgent is an agent that did this and that.
func randomAgent(dice *rand.Rand, code []impl.Op, steps int) impl.Agent {
	a := impl.AgentNew(code, dice.IntN(3))
	for range dice.IntN(steps + 1) {
		switch {
		case !a.Up && dice.IntN(3) > 0:
			a = impl.AgentRise(code, a)
		case dice.IntN(6) == 0:
			a = impl.AgentFall(code, 1+dice.IntN(3), a, impl.Msg{}, randomBytes(dice))
		case dice.IntN(8) == 0:
			a = impl.AgentFall(code, 1+dice.IntN(3), a, randomHearing(dice, a), randomBytes(dice))
		case dice.IntN(2) == 0:
			a = impl.AgentHear(code, 1+dice.IntN(3), a, randomHearing(dice, a))
		default:
			a, _ = impl.AgentTick(code, a)
		}
	}
	return a
}

// spoilAgent changes a part of an agent, so that it is not ok, or still is.
func spoilAgent(dice *rand.Rand, a impl.Agent) impl.Agent {
	records, _ := readAs(a.Log)
	switch dice.IntN(8) {
	case 0:
		a.Id = []int{-1, 0, 1, 2, 3, 10, 1 << 40}[dice.IntN(7)]
	case 1:
		a.Up = !a.Up
	case 2:
		a.Mach = spoilMach(dice, a.Mach)
	case 3:
		a.Mach = impl.Mach{}
	case 4:
		a.Log = spoil(dice, a.Log, "0123456789:;idxc \x00")
	case 5:
		a.Log += logText([]string{"i 0", "d 0", "x 0", "c 0 0", "i 1", "d 1", "x 1", "c 1 0", "i 2", "p 1", ""}[dice.IntN(11)])
	case 6:
		if len(records) > 0 {
			a.Log = logText(slices.Delete(slices.Clone(records), 0, 1+dice.IntN(len(records)))...)
		}
	case 7:
		if len(records) > 0 {
			at := dice.IntN(len(records))
			a.Log = logText(append(slices.Clone(records[:at+1]), records[at:]...)...)
		}
	}
	return a
}

// wrongCodes are none.
func wrongCodes() [][]impl.Op {
	end := does(impl.OpEnd)
	return [][]impl.Op{nil, {}, {runs("a")}, {end, end, runs("a")}, {runs(""), end}, {runs("a; b"), end}, {leads(impl.OpGo, 2), end}, {does(0), end}, {does(10), end}, {sets("1", "x"), end}, slices.Repeat([]impl.Op{end}, 101)}
}

// wrongMsgs are not ok, though but for one part they are what an agent waits for.
func wrongMsgs(good impl.Msg) []impl.Msg {
	var list []impl.Msg
	for _, change := range []func(m *impl.Msg){
		func(m *impl.Msg) { m.Kind = -1 },
		func(m *impl.Msg) { m.Kind = 10 },
		func(m *impl.Msg) { m.From = 3 },
		func(m *impl.Msg) { m.From = 9 },
		func(m *impl.Msg) { m.From = 13 },
		func(m *impl.Msg) { m.From = -1 },
		func(m *impl.Msg) { m.To = 3 },
		func(m *impl.Msg) { m.To = -1 },
		func(m *impl.Msg) { m.To = 13 },
		func(m *impl.Msg) { m.Ballot = -1 },
		func(m *impl.Msg) { m.Ballot = 10000 },
		func(m *impl.Msg) { m.Inst = -1 },
		func(m *impl.Msg) { m.Inst = 13 },
		func(m *impl.Msg) { m.Votes = []int{0, 0, 0, 0} },
		func(m *impl.Msg) { m.Votes = []int{-2} },
		func(m *impl.Msg) { m.Votes = []int{128} },
		func(m *impl.Msg) { m.List = []impl.Entry{{Inst: 0, Ballot: 0, Votes: []int{0}}} },
		func(m *impl.Msg) { m.List = []impl.Entry{{Inst: 0, Ballot: 1}} },
		func(m *impl.Msg) { m.List = []impl.Entry{{Inst: 12, Ballot: 1, Votes: []int{0}}} },
		func(m *impl.Msg) {
			m.List = []impl.Entry{{Inst: 1, Ballot: 1, Votes: []int{0}}, {Inst: 1, Ballot: 1, Votes: []int{0}}}
		},
	} {
		m := good
		change(&m)
		list = append(list, m)
	}
	return list
}

// commonCode is code at which agents are looked at: files, names, what goes on and what does not.
func commonCode(t *testing.T) []impl.Op {
	t.Helper()
	return codeOf(t, "echo a > f; n=1; while test $n -lt 3; do echo $? >> f; n=$((n+1)); done; cat f || rm f")
}

func TestP44New(t *testing.T) {
	t.Parallel()
	dice := newDice(441)
	codes := [][]impl.Op{{does(impl.OpEnd)}, {runs("a"), does(impl.OpEnd)}, {does(impl.OpNot), does(impl.OpEnd)}, {leads(impl.OpGo, 0), does(impl.OpEnd)}, {sets("i", "x"), runs("echo $i"), does(impl.OpEnd)}, commonCode(t)}
	for range 300 {
		codes = append(codes, randomProgram(dice))
	}
	for _, code := range append(codes, wrongCodes()...) {
		for _, id := range []int{-1 << 63, -1, 0, 1, 2, 3, 9, 10, 11, 12, 13, 1<<63 - 1} {
			given, untouched := guarded(t, code, runs("mark"))
			a := impl.AgentNew(given, id)
			untouched("AgentNew")
			if !impl.CodeOk(code) || id < 0 || id > 2 {
				if !sameAgent(a, impl.Agent{}) {
					t.Errorf("%+v and %d: %+v", code, id, a)
				}
				continue
			}
			if !a.Up || a.Id != id || a.Log != "" || !sameMach(a.Mach, impl.MachNew(code)) || !impl.AgentOk(code, a) {
				t.Errorf("%+v and %d: %+v", code, id, a)
			}
			checkAgent(t, code, impl.PolicyAll, a, chosen(id, 0, 0), 6)
		}
	}
}

// checkTick asks for what P45 says of one agent that is up.
func checkTick(t *testing.T, code []impl.Op, a impl.Agent) (impl.Agent, []impl.Msg) {
	t.Helper()
	next, told := impl.AgentTick(code, a)
	again, toldAgain := impl.AgentTick(code, next)
	if !impl.AgentOk(code, next) || next.Mach.Inst != a.Mach.Inst || !sameAgent(again, next) || !sameMsgs(told, toldAgain) {
		t.Fatalf("%+v: %+v %+v, then %+v %+v", a, next, told, again, toldAgain)
	}
	if impl.MachEnd(code, next.Mach) {
		if len(told) != 0 || !sameAgent(next, a) {
			t.Fatalf("%+v: at its end %+v %+v", a, next, told)
		}
		return next, told
	}
	last := next.Mach.Stats[len(next.Mach.Stats)-1]
	for i, m := range told {
		if !sameMsg(m, impl.Msg{Kind: impl.MsgReport, From: a.Id, To: impl.RepBase + i, Inst: a.Mach.Inst, Votes: []int{last}}) {
			t.Fatalf("%+v: %+v", a, m)
		}
	}
	if len(told) != impl.RepMax {
		t.Fatalf("%+v: %+v", a, told)
	}
	return next, told
}

func TestP45Tick(t *testing.T) {
	t.Parallel()
	code := codeOf(t, "echo a > f; false; cat f")
	a := impl.AgentNew(code, 2)
	for i, want := range []struct {
		log  string
		stat int
	}{{"3:i 0;3:d 0;", 0}, {"3:i 1;3:d 1;", 1}, {"3:i 2;3:d 2;", 0}} {
		next, told := checkTick(t, code, a)
		if writtenBehind(t, a.Log, next.Log) != want.log || told[2].Votes[0] != want.stat || told[0].Inst != i || told[1].From != 2 {
			t.Errorf("%d: %q %+v", i, next.Log, told)
		}
		// What is done stays done: a tick adds nothing any more.
		if again, _ := checkTick(t, code, next); again.Log != next.Log {
			t.Errorf("%d: %q", i, again.Log)
		}
		a = impl.AgentHear(code, impl.PolicyAll, next, chosen(2, i, 7))
	}
	if next, told := impl.AgentTick(code, a); len(told) != 0 || !sameAgent(next, a) || !impl.MachEnd(code, a.Mach) || a.Mach.Inst != 3 {
		t.Errorf("%+v: %+v %+v", a, next, told)
	}
	// Of code that runs nothing there is nothing to be told, and at InstMax nothing any more.
	nothing := []impl.Op{does(impl.OpEnd)}
	if next, told := impl.AgentTick(nothing, impl.AgentNew(nothing, 0)); len(told) != 0 || next.Log != "" {
		t.Errorf("%+v %+v", next, told)
	}
	around := codeOf(t, "while true; do true; done")
	a = impl.AgentNew(around, 0)
	for inst := range impl.InstMax {
		next, told := checkTick(t, around, a)
		if len(told) != 3 || told[0].Inst != inst {
			t.Errorf("%d: %+v", inst, told)
		}
		a = impl.AgentHear(around, impl.PolicyAll, next, chosen(0, inst, 0))
	}
	if next, told := checkTick(t, around, a); a.Mach.Inst != impl.InstMax || len(told) != 0 || next.Log != a.Log {
		t.Errorf("%+v %+v", next, told)
	}
}

func TestP45AnyAgents(t *testing.T) {
	t.Parallel()
	dice := newDice(45)
	up, waited, done, ended, down := 0, 0, 0, 0, 0
	for range 1500 {
		code := randomProgram(dice)
		a := randomAgent(dice, code, 30)
		if !checkAgent(t, code, dice.IntN(5), a, randomHearing(dice, a), randomBytes(dice)) {
			t.Fatalf("%+v is not ok", a)
		}
		switch {
		case !a.Up:
			down++
			continue
		case impl.MachEnd(code, a.Mach):
			ended++
		case machWaits(code, a.Mach):
			waited++
		default:
			done++
		}
		up++
		checkTick(t, code, a)
	}
	if up < 300 || waited < 50 || done < 50 || ended < 50 || down < 50 {
		t.Error(up, waited, done, ended, down)
	}
}

// No agent that is ok has a log that is near its limit: one that has room for `i N` alone is not ok, whatever it has.
func TestP45LogMax(t *testing.T) {
	t.Parallel()
	code := codeOf(t, "until true; do true; done")
	a := impl.AgentNew(code, 0)
	for inst := range impl.InstMax {
		a, _ = impl.AgentTick(code, a)
		a = impl.AgentHear(code, impl.PolicyAll, a, chosen(0, inst, 127))
	}
	if len(a.Log) != 270 || !impl.AgentOk(code, a) {
		t.Error(len(a.Log), a.Log)
	}
	for _, room := range []int{0, 5, 6, 11, 12} {
		for _, log := range []string{fullUpTo(room), strings.Repeat("\x00", impl.LogMax-room), logText(slices.Repeat([]string{"c 0 0"}, (impl.LogMax-room)/8)...)} {
			a := impl.Agent{Log: log, Up: true, Mach: impl.MachNew(code)}
			if checkAgent(t, code, impl.PolicyAll, a, chosen(0, 0, 0), 6) {
				t.Errorf("%d bytes: ok", len(log))
			}
		}
	}
	// Not up, all that can't be read counts for its length alone, and goes when it is up again.
	for _, open := range []bool{false, true} {
		log, risen := "3:i 0;3:d 0;", "3:i 0;3:d 0;"
		if open {
			log, risen = "3:i 0;", "3:i 0;3:x 0;"
		}
		for _, size := range []int{impl.LogMax - 6, impl.LogMax - 5, impl.LogMax - 1, impl.LogMax, impl.LogMax + 1, impl.LogMax + 6} {
			a := impl.Agent{Log: log + strings.Repeat("\x00", size-len(log))}
			if checkAgent(t, code, impl.PolicyAll, a, chosen(0, 0, 0), 6) != (size <= impl.LogMax) {
				t.Errorf("%d bytes", size)
			}
			if up := impl.AgentRise(code, a); size <= impl.LogMax && (up.Log != risen || !up.Up) {
				t.Errorf("%d bytes: %+v", size, up)
			}
		}
	}
}

func TestP46Hear(t *testing.T) {
	t.Parallel()
	code := codeOf(t, "true; false || echo b")
	fresh := impl.AgentNew(code, 1)
	did, _ := impl.AgentTick(code, fresh)
	for _, c := range []struct {
		policy int
		votes  []int
		status int
	}{
		{impl.PolicyAll, []int{0}, 0}, {impl.PolicyAll, []int{0, 5, 3}, 5}, {impl.PolicyAll, []int{0, -1}, 123}, {impl.PolicyAll, []int{-1, 127, 0}, 127}, {impl.PolicyAll, []int{-1}, 123},
		{impl.PolicyAny, []int{9}, 9}, {impl.PolicyAny, []int{9, 5, 6}, 5}, {impl.PolicyAny, []int{-1, 127}, 123}, {impl.PolicyAny, []int{-1, 0, -1}, 0},
		{impl.PolicyMost, []int{9}, 9}, {impl.PolicyMost, []int{9, 5}, 123}, {impl.PolicyMost, []int{0, 5, 5}, 5}, {impl.PolicyMost, []int{-1, -1, 5}, 123}, {impl.PolicyMost, []int{-1, -1, -1}, 123}, {impl.PolicyMost, []int{127, 127}, 127},
	} {
		for _, from := range []int{10, 11, 12} {
			m := chosen(1, 0, c.votes...)
			m.From = from
			next := impl.AgentHear(code, c.policy, did, m)
			if writtenBehind(t, did.Log, next.Log) != recordText(fmt.Sprint("c 0 ", c.status)) || !sameMach(next.Mach, impl.MachGo(code, did.Mach, c.status)) || next.Mach.Last != c.status {
				t.Errorf("%d and %v: %+v", c.policy, c.votes, next)
			}
			if again := impl.AgentHear(code, c.policy, next, m); !sameAgent(again, next) {
				t.Errorf("%d and %v: again %+v", c.policy, c.votes, again)
			}
			checkAgent(t, code, c.policy, did, m, 4)
			checkAgent(t, code, c.policy, next, m, 4)
			// Ahead of its own run, and behind it, nothing is taken.
			if early := impl.AgentHear(code, c.policy, fresh, m); !sameAgent(early, fresh) {
				t.Errorf("%d and %v: ahead %+v", c.policy, c.votes, early)
			}
		}
	}
	for _, policy := range []int{0, -1, 4, 1 << 40} {
		if next := impl.AgentHear(code, policy, did, chosen(1, 0, 0)); !sameAgent(next, did) {
			t.Errorf("%d: %+v", policy, next)
		}
		checkAgent(t, code, policy, did, chosen(1, 0, 0), 4)
	}
}

func TestP46NothingElse(t *testing.T) {
	t.Parallel()
	code := codeOf(t, "true; false || echo b; cat f")
	var agents []impl.Agent
	for _, records := range [][]string{nil, {"i 0", "d 0"}, {"i 0", "x 0"}, {"i 0", "d 0", "c 0 0"}, {"i 0", "d 0", "c 0 0", "i 1", "d 1"}, {"i 0", "d 0", "c 0 0", "i 1", "d 1", "c 1 127", "i 2", "x 2"}} {
		agents = append(agents, agentBy(t, code, 1, records...))
	}
	took := 0
	for _, a := range agents {
		good := chosen(1, a.Mach.Inst, 0, 3)
		msgs := append(wrongMsgs(good), chosen(0, a.Mach.Inst, 0), chosen(2, a.Mach.Inst, 0), chosen(1, a.Mach.Inst))
		for inst := range impl.InstMax + 1 {
			msgs = append(msgs, chosen(1, inst, 0, -1, 127))
		}
		for kind := range 11 {
			for _, from := range []int{0, 1, 2, 10, 11, 12} {
				msgs = append(msgs, impl.Msg{Kind: kind, From: from, To: 1, Inst: a.Mach.Inst, Votes: []int{4}})
			}
		}
		// Parts that are not asked for change nothing.
		full := good
		full.Ballot, full.List = 9999, []impl.Entry{{Inst: 3, Ballot: 4, Votes: []int{0, 1, 2}}}
		for _, m := range append(msgs, full) {
			next := impl.AgentHear(code, impl.PolicyMost, a, m)
			checkAgent(t, code, impl.PolicyMost, a, m, 5)
			if !sameAgent(next, a) {
				took++
				if m.Kind != impl.MsgChosen || m.To != 1 || m.From < impl.RepBase || m.Inst != a.Mach.Inst || len(m.Votes) == 0 || len(a.Mach.Stats) == a.Mach.Inst {
					t.Errorf("%+v takes %+v", a, m)
				}
			}
		}
	}
	// Of the four agents of which something is undecided each takes that of its Inst, those of those who decide, and the full one.
	if took != 4*(1+3+1) {
		t.Error(took)
	}
}

// checkFall asks for what P47 and P48 say of one agent that is up.
func checkFall(t *testing.T, code []impl.Op, policy int, a impl.Agent, m impl.Msg) {
	t.Helper()
	would, _ := impl.AgentTick(code, a)
	if m.Kind != 0 {
		would = impl.AgentHear(code, policy, a, m)
	}
	added := len(writtenBehind(t, a.Log, would.Log))
	for _, bytes := range somePlaces(added) {
		fallen := impl.AgentFall(code, policy, a, m, bytes)
		if !impl.AgentOk(code, fallen) || fallen.Up || !isNothing(fallen.Mach) || fallen.Id != a.Id || fallen.Log != would.Log[:len(a.Log)+max(0, min(bytes, added))] {
			t.Fatalf("%+v, %+v and %d: fallen %+v", a, m, bytes, fallen)
		}
		up := impl.AgentRise(code, fallen)
		if !impl.AgentOk(code, up) || !up.Up {
			t.Fatalf("%+v, %+v and %d: risen %+v", a, m, bytes, up)
		}
		if !sameMach(up.Mach, a.Mach) && !sameMach(up.Mach, would.Mach) && !sameMach(up.Mach, impl.MachSkip(code, a.Mach)) {
			t.Fatalf("%+v, %+v and %d: risen %+v", a, m, bytes, up)
		}
		if bytes >= added && !sameAgent(up, would) || bytes <= 0 && !sameAgent(up, a) {
			t.Fatalf("%+v, %+v and %d: risen %+v", a, m, bytes, up)
		}
		again := impl.AgentFall(code, policy, up, impl.Msg{Kind: 1}, 100)
		if !sameAgent(impl.AgentRise(code, again), up) {
			t.Fatalf("%+v, %+v and %d: risen again %+v", a, m, bytes, again)
		}
		checkAgent(t, code, policy, a, m, bytes)
		checkAgent(t, code, policy, fallen, m, bytes)
	}
}

func TestP47EachPlace(t *testing.T) {
	t.Parallel()
	code := commonCode(t)
	a := impl.AgentNew(code, 0)
	for inst := 0; !impl.MachEnd(code, a.Mach); inst++ {
		checkFall(t, code, impl.PolicyAll, a, impl.Msg{})
		checkFall(t, code, impl.PolicyAll, a, chosen(0, inst, 0))
		// Half of what it writes is done, the other half is open.
		half := impl.AgentRise(code, impl.AgentFall(code, impl.PolicyAll, a, impl.Msg{}, len(recordText(fmt.Sprint("i ", inst)))))
		if !sameMach(half.Mach, impl.MachSkip(code, a.Mach)) || writtenBehind(t, a.Log, half.Log) != logText(fmt.Sprint("i ", inst), fmt.Sprint("x ", inst)) {
			t.Fatalf("%d: %+v", inst, half)
		}
		checkFall(t, code, impl.PolicyAll, half, impl.Msg{})
		checkFall(t, code, impl.PolicyAll, half, chosen(0, inst, 0))
		if inst%2 == 0 {
			a, _ = impl.AgentTick(code, a)
		} else {
			a = half
		}
		checkFall(t, code, impl.PolicyMost, a, impl.Msg{})
		checkFall(t, code, impl.PolicyMost, a, chosen(0, inst, inst%2, inst%2, -1))
		checkFall(t, code, impl.PolicyMost, a, chosen(0, inst+1, 0))
		checkFall(t, code, 0, a, chosen(0, inst, 0))
		checkFall(t, code, impl.PolicyMost, a, impl.Msg{Kind: -1})
		a = impl.AgentHear(code, impl.PolicyAll, a, chosen(0, inst, 0))
	}
	if a.Mach.Inst != impl.InstMax || !slices.Contains(a.Mach.Stats, impl.StatusCut) {
		t.Errorf("%+v", a)
	}
	checkFall(t, code, impl.PolicyAll, a, impl.Msg{})
	checkFall(t, code, impl.PolicyAll, a, chosen(0, 8, 0))
}

func TestP47AnyAgents(t *testing.T) {
	t.Parallel()
	dice := newDice(47)
	for range 120 {
		code := randomProgram(dice)
		a := randomAgent(dice, code, 20)
		if a.Up {
			checkFall(t, code, impl.PolicyAny, a, impl.Msg{})
			checkFall(t, code, impl.PolicyMost, a, randomHearing(dice, a))
		}
	}
}

// checkRise asks for what P48 says of one agent that is not up.
func checkRise(t *testing.T, code []impl.Op, a impl.Agent) impl.Agent {
	t.Helper()
	up := impl.AgentRise(code, a)
	records, size := readAs(a.Log)
	more, all := readAs(up.Log)
	if !impl.AgentOk(code, up) || !up.Up || all != len(up.Log) || !slices.Equal(more[:len(records)], records) || up.Log[:size] != a.Log[:size] || len(more) > len(records)+1 {
		t.Fatalf("%+v: %+v", a, up)
	}
	if fallen := (impl.Agent{Id: up.Id, Log: up.Log}); !sameAgent(impl.AgentRise(code, fallen), up) || !sameAgent(impl.AgentRise(code, up), up) {
		t.Fatalf("%+v: %+v", a, up)
	}
	checkAgent(t, code, impl.PolicyAll, a, chosen(a.Id, 0, 0), 6)
	return up
}

func TestP48TornLogs(t *testing.T) {
	t.Parallel()
	code := commonCode(t)
	records := []string{"i 0", "d 0", "c 0 0", "i 1", "x 1", "c 1 0", "i 2", "d 2", "c 2 0", "i 3", "d 3", "c 3 10", "i 4", "x 4", "c 4 127"}
	log := logText(records...)
	cut := 0
	for at := range len(log) + 1 {
		up := checkRise(t, code, impl.Agent{Id: 2, Log: log[:at]})
		whole, _ := readAs(log[:at])
		if open := len(whole)%3 == 1; open {
			cut++
			if added := writtenBehind(t, logText(whole...), up.Log); added != recordText(fmt.Sprint("x ", len(whole)/3)) {
				t.Errorf("%q: %q", log[:at], added)
			}
		} else if up.Log != logText(whole...) {
			t.Errorf("%q: %q", log[:at], up.Log)
		}
		for _, char := range strings.Split("0123456789:;idxc -~\x00", "") {
			other := log[:at] + char + log[min(at+1, len(log)):]
			a := impl.Agent{Id: 2, Log: other}
			if impl.AgentOk(code, a) {
				checkRise(t, code, a)
			} else if agentFits(code, a) {
				t.Errorf("%q is not ok", other)
			}
		}
	}
	// Each is open from its own `i N` on up to what is behind it.
	if cut != 5*len("3:d 0;") {
		t.Error(cut)
	}
	for tail, want := range map[string]string{"": "3:i 0;3:x 0;", "3:d 0": "3:i 0;3:x 0;", "3:d": "3:i 0;3:x 0;", "\x00": "3:i 0;3:x 0;", "x3:d 0;": "3:i 0;3:x 0;", "3:d 0;": "3:i 0;3:d 0;", "3:d 0;3:d 0": "3:i 0;3:d 0;", "3:x 0;": "3:i 0;3:x 0;", "3:x 0;3:": "3:i 0;3:x 0;"} {
		if up := checkRise(t, code, impl.Agent{Log: "3:i 0;" + tail}); up.Log != want {
			t.Errorf("%q: %q", tail, up.Log)
		}
	}
}

// eachLog calls with each row of so many of these records at most, as long as it is ok, and with those that are not ok by their last one.
func eachLog(texts []string, most int, call func(records []string) bool) {
	var from func(records []string)
	from = func(records []string) {
		if !call(records) || len(records) == most {
			return
		}
		for _, text := range texts {
			from(append(slices.Clone(records), text))
		}
	}
	from(nil)
}

// countRecords counts the records of a log that begin so.
func countRecords(log string, head string) int {
	records, _ := readAs(log)
	many := 0
	for _, record := range records {
		if record == head || strings.HasPrefix(record, head+" ") {
			many++
		}
	}
	return many
}

// checkCounts asks for what P49 says of one agent that is ok.
func checkCounts(t *testing.T, a impl.Agent) {
	t.Helper()
	for inst := range impl.InstMax + 1 {
		n := strconv.Itoa(inst)
		began, ended, went := countRecords(a.Log, "i "+n), countRecords(a.Log, "d "+n)+countRecords(a.Log, "x "+n), countRecords(a.Log, "c "+n)
		if began > 1 || ended > began || went > ended || a.Up && ended != began {
			t.Fatalf("%+v: %d of %d", a, inst, began)
		}
	}
}

func TestP49EachLog(t *testing.T) {
	t.Parallel()
	// Two commands, and only a fine one is followed by the other one.
	code := codeOf(t, "true && echo b >> f")
	texts := []string{"i 0", "d 0", "x 0", "c 0 0", "c 0 5", "i 1", "d 1", "x 1", "c 1 0", "i 2", "d 2", "c 2 0"}
	fine, wrong := 0, 0
	eachLog(texts, 7, func(records []string) bool {
		a := impl.Agent{Id: 1, Log: logText(records...)}
		_, ok := storyOf(code, records)
		if impl.AgentOk(code, a) != ok {
			t.Fatalf("%q: %v", records, !ok)
		}
		checkAgent(t, code, impl.PolicyAll, a, chosen(1, 0, 0), 3)
		if ok {
			fine++
			checkCounts(t, a)
			checkRise(t, code, a)
		} else {
			wrong++
		}
		return ok
	})
	// Nothing; begun; done or cut; decided fine or not; and the same of the second one behind fine.
	if fine != 1+1+2+4+2+4+4 || wrong < 100 {
		t.Error(fine, wrong)
	}
}

func TestP49AnyRuns(t *testing.T) {
	t.Parallel()
	dice := newDice(49)
	long := 0
	for range 200 {
		code := randomProgram(dice)
		a := impl.AgentNew(code, 1)
		for range 60 {
			before := a.Log
			switch dice.IntN(7) {
			default:
				a, _ = impl.AgentTick(code, a)
			case 0:
				a = impl.AgentFall(code, impl.PolicyAll, a, []impl.Msg{{}, chosen(1, a.Mach.Inst, 0)}[dice.IntN(2)], randomBytes(dice))
			case 1, 2:
				a = impl.AgentHear(code, impl.PolicyAny, a, chosen(1, a.Mach.Inst, randomVotes(dice, 1)...))
			case 3, 4:
				a = impl.AgentRise(code, a)
			}
			whole, _ := readAs(before)
			writtenBehind(t, logText(whole...), a.Log)
			if !impl.AgentOk(code, a) {
				t.Fatalf("%+v is not ok", a)
			}
			checkCounts(t, a)
		}
		if a.Mach.Inst > 3 {
			long++
		}
	}
	if long < 20 {
		t.Error(long)
	}
}

func TestP50SameWay(t *testing.T) {
	t.Parallel()
	dice := newDice(50)
	cut := 0
	for range 400 {
		code := randomProgram(dice)
		steady, shaky := impl.AgentNew(code, 0), impl.AgentNew(code, 1)
		for inst := 0; !impl.MachEnd(code, steady.Mach); inst++ {
			steady, _ = impl.AgentTick(code, steady)
			for range dice.IntN(4) {
				shaky = impl.AgentRise(code, impl.AgentFall(code, impl.PolicyMost, shaky, impl.Msg{}, dice.IntN(16)-1))
			}
			shaky, _ = impl.AgentTick(code, shaky)
			if shaky.Mach.Stats[inst] == impl.StatusCut {
				cut++
			}
			votes := randomVotes(dice, 1)
			steady = impl.AgentHear(code, impl.PolicyMost, steady, chosen(0, inst, votes...))
			for range dice.IntN(4) {
				shaky = impl.AgentRise(code, impl.AgentFall(code, impl.PolicyMost, shaky, chosen(1, inst, votes...), dice.IntN(16)-1))
			}
			shaky = impl.AgentHear(code, impl.PolicyMost, shaky, chosen(1, inst, votes...))
			if steady.Mach.Pc != shaky.Mach.Pc || steady.Mach.Inst != inst+1 || shaky.Mach.Inst != inst+1 || steady.Mach.Last != shaky.Mach.Last {
				t.Fatalf("%+v and %+v", steady, shaky)
			}
		}
		if !impl.MachEnd(code, shaky.Mach) {
			t.Fatalf("%+v is not at its end", shaky)
		}
	}
	if cut < 100 {
		t.Error(cut)
	}
}

func TestP49AgentOk(t *testing.T) {
	t.Parallel()
	code := codeOf(t, "echo a > f; false; cat f")
	good := agentBy(t, code, 1, "i 0", "d 0", "c 0 0", "i 1", "x 1")
	fits := func(want bool, a impl.Agent) {
		t.Helper()
		if checkAgent(t, code, impl.PolicyAll, a, chosen(1, 1, 0), 4) != want {
			t.Errorf("%+v: %v", a, !want)
		}
	}
	with := func(change func(a *impl.Agent)) impl.Agent {
		a := good
		change(&a)
		return a
	}
	fits(true, good)
	for id, want := range map[int]bool{-1 << 63: false, -1: false, 0: true, 1: true, 2: true, 3: false, 10: false, 12: false, 1<<63 - 1: false} {
		fits(want, with(func(a *impl.Agent) { a.Id = id }))
		fits(want, impl.Agent{Id: id})
	}
	fits(false, with(func(a *impl.Agent) { a.Up = false }))
	fits(true, with(func(a *impl.Agent) { a.Up, a.Mach = false, impl.Mach{} }))
	fits(false, impl.Agent{Up: true, Log: "3:i 0;", Mach: impl.MachNew(code)})
	fits(true, impl.Agent{Log: "3:i 0;"})
	fits(true, impl.Agent{Up: true, Mach: impl.MachNew(code)})
	fits(true, impl.Agent{})
	for _, tail := range []string{"\x00", "3:", "3:i", "3:c 1", ";", "01:a;", "3:c 1 0;", " "} {
		fits(false, with(func(a *impl.Agent) { a.Log += tail }))
		fits(true, with(func(a *impl.Agent) { a.Log, a.Up, a.Mach = a.Log+tail, false, impl.Mach{} }))
	}
	for _, change := range []func(m *impl.Mach){
		func(m *impl.Mach) { m.Pc++ },
		func(m *impl.Mach) { m.Pc-- },
		func(m *impl.Mach) { m.Inst++ },
		func(m *impl.Mach) { m.Inst-- },
		func(m *impl.Mach) { m.Last = 1 },
		func(m *impl.Mach) { m.Last = -1 },
		func(m *impl.Mach) { m.Box = impl.Box{} },
		func(m *impl.Mach) { m.Box = stock("f=b\n") },
		func(m *impl.Mach) { m.Box = stock("g=a\n") },
		func(m *impl.Mach) { m.Box = stock("f=a\n", "$n=1") },
		func(m *impl.Mach) { m.Outs = []string{"", "x"} },
		func(m *impl.Mach) { m.Outs = []string{""} },
		func(m *impl.Mach) { m.Outs = []string{"", "", ""} },
		func(m *impl.Mach) { m.Stats = []int{0, 0} },
		func(m *impl.Mach) { m.Stats = []int{1, 126} },
		func(m *impl.Mach) { m.Stats = []int{0} },
		func(m *impl.Mach) { m.Stats = nil },
		func(m *impl.Mach) { *m = impl.Mach{} },
		func(m *impl.Mach) { *m = impl.MachNew(code) },
		func(m *impl.Mach) { *m = impl.MachGo(code, *m, 0) },
	} {
		fits(false, with(func(a *impl.Agent) { change(&a.Mach) }))
		a := impl.Agent{Id: 1, Log: good.Log}
		change(&a.Mach)
		fits(isNothing(a.Mach), a)
	}
	// Each part of a machine alone, of one that is not up.
	for _, m := range []impl.Mach{{Pc: 1}, {Inst: 1}, {Last: 1}, {Box: stock("f=")}, {Box: stock("$n=")}, {Outs: []string{""}}, {Stats: []int{0}}} {
		fits(false, impl.Agent{Mach: m})
	}
	// What is too long for a record can't be read; what is not is none of its records.
	for size, want := range map[int]bool{59: false, 60: false, 61: true, 62: true} {
		fits(want, impl.Agent{Id: 1, Log: good.Log + recordText(strings.Repeat("c", size))})
	}
	// Empty lists are none, whatever they are made of.
	fits(true, impl.Agent{Mach: impl.Mach{Outs: []string{}, Stats: make([]int, 0, 5), Box: impl.Box{Files: []impl.File{}, Vars: make([]impl.Var, 0, 2)}}})
	for _, wrong := range wrongCodes() {
		for _, a := range []impl.Agent{good, {}, {Up: true}, {Id: 1, Log: good.Log}} {
			if checkAgent(t, wrong, impl.PolicyAll, a, chosen(1, 1, 0), 4) {
				t.Errorf("%+v with %+v", a, wrong)
			}
		}
	}
	// It may be ok by one code and not by another one.
	if other := codeOf(t, "echo b > f; false; cat f"); impl.AgentOk(other, good) {
		t.Error("by another code")
	}
}

func TestP49WrongRecords(t *testing.T) {
	t.Parallel()
	code := codeOf(t, "while true; do true; done")
	for _, c := range []struct {
		ahead []string
		text  string
		want  bool
	}{
		{nil, "i 0", true}, {nil, "i 1", false}, {nil, "i -1", false}, {nil, "i", false}, {nil, "i ", false}, {nil, "i 00", false}, {nil, "i 0 ", false}, {nil, " i 0", false}, {nil, "i  0", false}, {nil, "i 0 0", false}, {nil, "i 0x", false}, {nil, "I 0", false}, {nil, "i0", false}, {nil, "i +0", false}, {nil, "i -0", false}, {nil, "i 0.0", false}, {nil, "i,0", false}, {nil, "i 18446744073709551616", false}, {nil, "i 4294967296", false},
		{nil, "d 0", false}, {nil, "x 0", false}, {nil, "c 0 0", false}, {nil, "p 1", false}, {nil, "a 0 1 0", false}, {nil, "k 0 0", false}, {nil, "0", false}, {nil, "j 0", false}, {nil, "-", false}, {nil, strings.Repeat("i", 60), false},
		{[]string{"i 0"}, "i 0", false}, {[]string{"i 0"}, "i 1", false}, {[]string{"i 0"}, "d 0", true}, {[]string{"i 0"}, "x 0", true}, {[]string{"i 0"}, "d 1", false}, {[]string{"i 0"}, "x 1", false}, {[]string{"i 0"}, "c 0 0", false}, {[]string{"i 0"}, "d 00", false}, {[]string{"i 0"}, "d 0 0", false}, {[]string{"i 0"}, "x -0", false}, {[]string{"i 0"}, "x", false}, {[]string{"i 0"}, "d", false},
		{[]string{"i 0", "d 0"}, "i 0", false}, {[]string{"i 0", "d 0"}, "i 1", false}, {[]string{"i 0", "d 0"}, "d 0", false}, {[]string{"i 0", "d 0"}, "x 0", false}, {[]string{"i 0", "d 0"}, "d 1", false},
		{[]string{"i 0", "x 0"}, "i 0", false}, {[]string{"i 0", "x 0"}, "i 1", false}, {[]string{"i 0", "x 0"}, "d 0", false}, {[]string{"i 0", "x 0"}, "x 0", false},
		{[]string{"i 0", "d 0"}, "c 0 0", true}, {[]string{"i 0", "x 0"}, "c 0 0", true}, {[]string{"i 0", "d 0"}, "c 0 127", true}, {[]string{"i 0", "d 0"}, "c 0 128", false}, {[]string{"i 0", "d 0"}, "c 0 -1", false}, {[]string{"i 0", "d 0"}, "c 1 0", false}, {[]string{"i 0", "d 0"}, "c 0", false}, {[]string{"i 0", "d 0"}, "c 0 ", false}, {[]string{"i 0", "d 0"}, "c 0 00", false}, {[]string{"i 0", "d 0"}, "c 0 0 0", false}, {[]string{"i 0", "d 0"}, "c 0 -0", false}, {[]string{"i 0", "d 0"}, "c  0 0", false}, {[]string{"i 0", "d 0"}, "c 0  0", false}, {[]string{"i 0", "d 0"}, "c 0,0", false}, {[]string{"i 0", "d 0"}, "c 0 0 ", false}, {[]string{"i 0", "d 0"}, "c 0 x", false}, {[]string{"i 0", "d 0"}, "c", false}, {[]string{"i 0", "d 0"}, "c 0 18446744073709551616", false}, {[]string{"i 0", "d 0"}, "c 0 256", false},
		{[]string{"i 0", "d 0", "c 0 0"}, "c 0 0", false}, {[]string{"i 0", "d 0", "c 0 0"}, "c 1 0", false}, {[]string{"i 0", "d 0", "c 0 0"}, "i 0", false}, {[]string{"i 0", "d 0", "c 0 0"}, "i 1", true}, {[]string{"i 0", "d 0", "c 0 0"}, "i 01", false}, {[]string{"i 0", "d 0", "c 0 0"}, "i 2", false}, {[]string{"i 0", "d 0", "c 0 0"}, "d 1", false},
		{[]string{"i 0", "d 0", "c 0 5"}, "i 1", false}, {[]string{"i 0", "d 0", "c 0 5"}, "d 0", false},
	} {
		log := logText(append(slices.Clone(c.ahead), c.text)...)
		a := impl.Agent{Id: 2, Log: log}
		if ok := checkAgent(t, code, impl.PolicyAll, a, chosen(2, 0, 0), 4); ok != c.want {
			t.Errorf("%q: %v", log, ok)
		}
		// What can't be read behind it changes nothing of that.
		a.Log += "3:i"
		if ok := checkAgent(t, code, impl.PolicyAll, a, chosen(2, 0, 0), 4); ok != c.want {
			t.Errorf("%q: %v", a.Log, ok)
		}
		// Also up: neither with the machine of what is ahead, nor with none, nor with what the records would make.
		risen := impl.AgentRise(code, impl.Agent{Id: 2, Log: logText(c.ahead...)})
		for _, m := range []impl.Mach{{}, risen.Mach, impl.MachRun(code, risen.Mach), impl.MachGo(code, risen.Mach, 0)} {
			checkAgent(t, code, impl.PolicyAll, impl.Agent{Id: 2, Log: log, Up: true, Mach: m}, chosen(2, 0, 0), 4)
		}
	}
}

func TestP49InstMax(t *testing.T) {
	t.Parallel()
	code := codeOf(t, "while true; do true; done")
	a := impl.AgentNew(code, 0)
	for inst := range impl.InstMax {
		checkAgent(t, code, impl.PolicyAll, a, chosen(0, inst, 0), 7)
		a, _ = impl.AgentTick(code, a)
		checkAgent(t, code, impl.PolicyAll, a, chosen(0, inst, 0), 7)
		a = impl.AgentHear(code, impl.PolicyAll, a, chosen(0, inst, 0))
		if a.Mach.Inst != inst+1 {
			t.Fatalf("%+v", a)
		}
	}
	for _, m := range []impl.Msg{chosen(0, 12, 0), chosen(0, 11, 0), chosen(0, 13, 0), {}} {
		if next := impl.AgentHear(code, impl.PolicyAll, a, m); !sameAgent(next, a) {
			t.Errorf("%+v", next)
		}
		checkAgent(t, code, impl.PolicyAll, a, m, 7)
	}
	for _, more := range []string{"i 12", "d 12", "c 12 0", "i 11", "d 11", "c 11 0"} {
		if down := (impl.Agent{Log: a.Log + recordText(more)}); checkAgent(t, code, impl.PolicyAll, down, impl.Msg{}, 0) {
			t.Errorf("%q", more)
		}
	}
}

func TestAgentSpoilt(t *testing.T) {
	t.Parallel()
	dice := newDice(4444)
	fine, wrong := 0, 0
	for range 3000 {
		code := randomProgram(dice)
		a := spoilAgent(dice, randomAgent(dice, code, 20))
		if checkAgent(t, code, 1+dice.IntN(3), a, randomHearing(dice, a), randomBytes(dice)) {
			fine++
		} else {
			wrong++
		}
	}
	if fine < 300 || wrong < 300 {
		t.Error(fine, wrong)
	}
}

// scribbleMsgs writes into all that messages have, room behind its ends included.
func scribbleMsgs(list []impl.Msg) {
	for _, m := range list {
		fillUp(m.Votes, 99)
		scribbleEntries(m.List)
	}
	fillUp(list, impl.Msg{Kind: 77})
}

func scribbleEntries(list []impl.Entry) {
	for _, e := range list {
		fillUp(e.Votes, 99)
	}
	fillUp(list, impl.Entry{Inst: 77, Ballot: 77})
}

func TestAgentAnswersAreNew(t *testing.T) {
	t.Parallel()
	code := commonCode(t)
	records := []string{"i 0", "d 0", "c 0 0", "i 1", "x 1", "c 1 0", "i 2", "d 2"}
	for many := range len(records) + 1 {
		log := logText(records[:many]...)
		for _, a := range []impl.Agent{{Id: 1, Log: log}, impl.AgentRise(code, impl.Agent{Id: 1, Log: log})} {
			m := chosen(1, a.Mach.Inst, 0, 1, 0)
			for name, answer := range map[string]func(a impl.Agent) (impl.Agent, []impl.Msg){
				"AgentNew":     func(a impl.Agent) (impl.Agent, []impl.Msg) { return impl.AgentNew(code, 1), nil },
				"AgentTick":    func(a impl.Agent) (impl.Agent, []impl.Msg) { return impl.AgentTick(code, a) },
				"AgentHear":    func(a impl.Agent) (impl.Agent, []impl.Msg) { return impl.AgentHear(code, 3, a, m), nil },
				"no AgentHear": func(a impl.Agent) (impl.Agent, []impl.Msg) { return impl.AgentHear(code, 0, a, m), nil },
				"AgentFall":    func(a impl.Agent) (impl.Agent, []impl.Msg) { return impl.AgentFall(code, 3, a, m, 9), nil },
				"AgentRise":    func(a impl.Agent) (impl.Agent, []impl.Msg) { return impl.AgentRise(code, a), nil },
			} {
				mach, untouched := guardedMach(t, a.Mach)
				given := impl.Agent{Id: a.Id, Log: a.Log, Up: a.Up, Mach: mach}
				first, firstTold := answer(given)
				second, secondTold := answer(given)
				kept := make([]impl.Msg, len(secondTold))
				for i, m := range secondTold {
					kept[i] = changedMsg(m, func(m *impl.Msg) {})
				}
				scribbleMach(first.Mach)
				if third, _ := answer(given); !sameAgent(third, second) || !sameMsgs(secondTold, kept) {
					t.Errorf("%s of %+v: an answer is shared: %+v, %+v", name, a, third, second)
				}
				for i := range firstTold {
					fillUp(firstTold[i].Votes, 99)
					if rest := firstTold[i+1:]; !sameMsgs(rest, kept[i+1:]) || !sameMsgs(secondTold, kept) {
						t.Errorf("%s of %+v: a list is shared: %+v, %+v", name, a, rest, kept)
					}
				}
				scribbleMsgs(firstTold)
				untouched("an answer of " + name)
				scribbleMach(second.Mach)
				if !sameMsgs(secondTold, kept) {
					t.Errorf("%s of %+v: messages share with the machine: %+v, %+v", name, a, secondTold, kept)
				}
			}
		}
	}
}

func TestAgentLeavesNobodyBehind(t *testing.T) {
	before := runtime.NumGoroutine()
	code := codeOf(t, "while echo a | cat | cat; do echo $((1/0)) | cat; cat | none | true; done")
	a := impl.AgentNew(code, 0)
	for inst := range 12 {
		a, _ = impl.AgentTick(code, a)
		a = impl.AgentHear(code, impl.PolicyAll, a, chosen(0, inst, 0))
		a = impl.AgentRise(code, impl.AgentFall(code, impl.PolicyAll, a, impl.Msg{}, 100))
	}
	if a.Mach.Inst != 12 {
		t.Errorf("%+v", a)
	}
	settled(t, before)
}
