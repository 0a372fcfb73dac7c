package tests

import (
	"fmt"
	"math/rand/v2"
	"slices"
	"strings"
	"testing"

	"loop.example/fugleman/impl"
)

// town is a second world: the second agents, and the second ones who decide, called one by one.
type town struct {
	impl.World
}

func townOf(w impl.World) *town {
	w.Agents, w.Reps, w.Radio = slices.Clone(w.Agents), slices.Clone(w.Reps), slices.Clone(w.Radio)
	return &town{w}
}

// newTown is a new one of code that is ok, and of as many agents as there may be.
func newTown(code []impl.Op, policy int, many int) *town {
	a := &town{impl.World{Code: code, Policy: policy}}
	for id := range many {
		a.Agents = append(a.Agents, impl.Agent{Id: id, Up: true, Mach: goneOn(code, impl.Mach{})})
	}
	for id := 10; id <= 12; id++ {
		a.Reps = append(a.Reps, newJudge(many, id).rep())
	}
	return a
}

func (a *town) many() int {
	return len(a.Agents)
}

// isUp says whether one is up, and whether it is there.
func (a *town) isUp(id int) (bool, bool) {
	switch {
	case id >= 0 && id < a.many():
		return a.Agents[id].Up, true
	case id >= 10 && id <= 12:
		return a.Reps[id-10].Up, true
	}
	return false, false
}

func (a *town) tells(told []impl.Msg) {
	for _, m := range told {
		if len(a.Radio) < 50 {
			a.Radio = append(a.Radio, sealed(headText(m)))
		}
	}
}

// ticks lets one that is up tick.
func (a *town) ticks(id int) {
	if id < 10 {
		next, told := agentTicked(a.Code, a.Agents[id])
		a.Agents[id] = next
		a.tells(told)
		return
	}
	j := judgeAs(a.many(), a.Reps[id-10])
	j.ticks()
	a.Reps[id-10] = j.rep()
	a.tells(j.told)
}

// hears lets one that is up hear what is for it.
func (a *town) hears(m impl.Msg) {
	if m.To < 10 {
		a.Agents[m.To] = agentHeard(a.Code, a.Policy, a.Agents[m.To], m)
		return
	}
	j := judgeAs(a.many(), a.Reps[m.To-10])
	j.hears(m)
	a.Reps[m.To-10] = j.rep()
	a.tells(j.told)
}

// falls lets one that is up fall in the midst of a message, or of a tick.
func (a *town) falls(id int, m impl.Msg, bytes int) {
	if id < 10 {
		a.Agents[id] = agentFallen(a.Code, a.Policy, a.Agents[id], m, bytes)
		return
	}
	a.Reps[id-10] = repMeant(a.many(), a.Reps[id-10], m, bytes).fallen
}

// rises lets one rise that is not up.
func (a *town) rises(id int) {
	if id < 10 {
		a.Agents[id] = agentRisen(a.Code, a.Agents[id])
		return
	}
	j, _ := judgeOf(a.many(), id, a.Reps[id-10].Log)
	a.Reps[id-10] = j.rep()
}

// event does what happens, if it can be.
func (a *town) event(e impl.Event) bool {
	if e.Kind != 1 && e.Kind < 7 || e.Kind > 8 {
		return a.onRadio(e)
	}
	up, there := a.isUp(e.At)
	if !there || up == (e.Kind == 8) {
		return false
	}
	switch e.Kind {
	case 1:
		a.ticks(e.At)
	case 7:
		a.falls(e.At, impl.Msg{}, e.Num)
	case 8:
		a.rises(e.At)
	}
	return true
}

func (a *town) onRadio(e impl.Event) bool {
	if e.Kind < 2 || e.Kind > 6 || e.At < 0 || e.At >= len(a.Radio) {
		return false
	}
	text := a.Radio[e.At]
	if e.Kind == 5 {
		if e.Num < 0 || text == "" {
			return false
		}
		bytes := []byte(text)
		bytes[e.Num%len(bytes)] = 255
		a.Radio[e.At] = string(bytes)
		return true
	}
	if e.Kind != 3 {
		a.Radio = slices.Delete(slices.Clone(a.Radio), e.At, e.At+1)
	}
	m, ok := msgMeant(text)
	up, there := a.isUp(m.To)
	switch {
	case e.Kind == 4 || !ok || !there || !up:
	case e.Kind == 6:
		a.falls(m.To, m, e.Num)
	default:
		a.hears(m)
	}
	return true
}

func (a *town) brings() {
	for brought := 0; brought < 300 && len(a.Radio) > 0; brought++ {
		a.event(impl.Event{Kind: 2})
	}
}

func (a *town) round() {
	agents, reps := countFrom(0, a.many()), []int{10, 11, 12}
	for _, id := range slices.Concat(agents, reps) {
		a.event(impl.Event{Kind: 8, At: id})
	}
	a.brings()
	for _, ids := range [][]int{agents, reps} {
		for _, id := range ids {
			a.event(impl.Event{Kind: 1, At: id})
		}
		a.brings()
	}
}

// way is the votes of what was decided.
func (a *town) way() [][]int {
	var way [][]int
	for _, r := range a.Reps {
		if votes := votesKnown(a.many(), r.Log); len(votes) > len(way) {
			way = votes
		}
	}
	return way
}

// votesKnown is the votes of what one who decides knows by its log.
func votesKnown(many int, log string) [][]int {
	j, _ := judgeOf(many, 10, log)
	var all [][]int
	for _, e := range j.chosen {
		all = append(all, e.Votes)
	}
	return all
}

// tookOf is what the records of an agent say was decided.
func tookOf(log string) []int {
	records, _ := readAs(log)
	var list []int
	for _, record := range records {
		if parts := strings.Fields(record); parts[0] == "c" {
			list = append(list, mustNum(parts[2]))
		}
	}
	return list
}

func (a *town) isSafe() bool {
	way, ends := a.way(), a.ends()
	for _, r := range a.Reps {
		for inst, votes := range votesKnown(a.many(), r.Log) {
			if !slices.Equal(votes, way[inst]) {
				return false
			}
		}
	}
	for id, agent := range a.Agents {
		records, _ := readAs(agent.Log)
		s, _ := storyOf(a.Code, records)
		for inst, votes := range way {
			if votes[id] >= 0 && (inst >= len(s.mach.Stats) || s.mach.Stats[inst] != votes[id]) {
				return false
			}
		}
		took := tookOf(agent.Log)
		if len(took) > len(way) || !slices.Equal(took, ends[:len(took)]) {
			return false
		}
	}
	return true
}

// ends is how what was decided ended.
func (a *town) ends() []int {
	var ends []int
	for _, votes := range a.way() {
		ends = append(ends, impl.Policy(a.Policy, votes))
	}
	return ends
}

func (a *town) isDone() bool {
	for _, agent := range a.Agents {
		if !agent.Up || !standsAtEnd(a.Code, agent.Mach) {
			return false
		}
	}
	return true
}

// report is what must be reported: groups are found one by one, and their hosts are told by a chart.
func (a *town) report() string {
	chart := []string{0: "", 1: "node1", 2: "node2", 3: "node[1-2]", 4: "node3", 5: "node[1,3]", 6: "node[2-3]", 7: "node[1-3]"}
	text := ""
	ends := a.ends()
	for inst, votes := range a.way() {
		text += fmt.Sprintf("%d: %d\n", inst, ends[inst])
		var wholes []string
		for id, vote := range votes {
			wholes = append(wholes, fmt.Sprintf("%d\n%s", vote, a.outOf(id, inst, vote)))
		}
		for id, whole := range wholes {
			if slices.Index(wholes, whole) < id {
				continue
			}
			hosts := 0
			for other := range wholes {
				if wholes[other] == whole {
					hosts += 1 << other
				}
			}
			status, out, _ := strings.Cut(whole, "\n")
			text += "  " + chart[hosts] + " " + status + "\n"
			for line := range strings.Lines(out) {
				text += "    " + strings.TrimSuffix(line, "\n") + "\n"
			}
		}
	}
	if a.isDone() {
		text += fmt.Sprintf("done %d\n", a.Agents[0].Mach.Last)
	}
	return text
}

// outOf is what an agent told of a command, if it voted.
func (a *town) outOf(id int, inst int, vote int) string {
	records, _ := readAs(a.Agents[id].Log)
	s, _ := storyOf(a.Code, records)
	if vote == -1 || inst >= len(s.mach.Outs) {
		return ""
	}
	return s.mach.Outs[inst]
}

// worldFits says whether a world is as the document asks.
func worldFits(w impl.World) bool {
	if !impl.CodeOk(w.Code) || w.Policy < 1 || w.Policy > 3 || len(w.Agents) < 1 || len(w.Agents) > 3 || len(w.Reps) != 3 || len(w.Radio) > 50 {
		return false
	}
	for id, a := range w.Agents {
		if a.Id != id || !agentFits(w.Code, a) {
			return false
		}
	}
	for at, r := range w.Reps {
		if r.Id != 10+at || !repFits(len(w.Agents), r) {
			return false
		}
	}
	for _, text := range w.Radio {
		if len(text) > 400 {
			return false
		}
	}
	return true
}

func sameWorld(a impl.World, b impl.World) bool {
	return slices.Equal(a.Code, b.Code) && a.Policy == b.Policy && slices.EqualFunc(a.Agents, b.Agents, sameAgent) && slices.EqualFunc(a.Reps, b.Reps, sameRep) && slices.Equal(a.Radio, b.Radio)
}

// guardedAll is a copy of a list, each part of it being guarded, with room behind its end, and a check that nothing was written there.
func guardedAll[T any](t *testing.T, list []T, guard func(t *testing.T, one T) (T, func(what string)), same func(a T, b T) bool) ([]T, func(what string)) {
	t.Helper()
	var checks []func(what string)
	room := make([]T, len(list)+3)
	for i, one := range list {
		given, untouched := guard(t, one)
		room[i] = given
		checks = append(checks, untouched)
	}
	kept := slices.Clone(room)
	return room[:len(list)], func(what string) {
		t.Helper()
		for _, check := range checks {
			check(what)
		}
		if !slices.EqualFunc(room, kept, same) {
			t.Errorf("%s wrote into an argument: %v, it was %v", what, room, kept)
		}
	}
}

func guardedAgent(t *testing.T, a impl.Agent) (impl.Agent, func(what string)) {
	t.Helper()
	mach, untouched := guardedMach(t, a.Mach)
	a.Mach = mach
	return a, untouched
}

// guardedWorld is a copy of a world with room behind all its lists, and a check that nothing was written there.
func guardedWorld(t *testing.T, w impl.World) (impl.World, func(what string)) {
	t.Helper()
	checks := make([]func(what string), 4)
	w.Code, checks[0] = guarded(t, w.Code, runs("mark"))
	w.Agents, checks[1] = guardedAll(t, w.Agents, guardedAgent, sameAgent)
	w.Reps, checks[2] = guardedAll(t, w.Reps, guardedRep, sameRep)
	w.Radio, checks[3] = guarded(t, w.Radio, "mark")
	return w, func(what string) {
		t.Helper()
		for _, check := range checks {
			check(what)
		}
	}
}

// worldText tells a world so that it can be read.
func worldText(w impl.World) string {
	text := fmt.Sprintf("%+v by %d\n", w.Code, w.Policy)
	for _, a := range w.Agents {
		text += fmt.Sprintf("  %+v\n", a)
	}
	for _, r := range w.Reps {
		text += fmt.Sprintf("  %+v\n", r)
	}
	for at, s := range w.Radio {
		text += fmt.Sprintf("  %d %q\n", at, s)
	}
	return text
}

// checkWorld holds all that is asked of a world against what it must be, and says whether it is ok.
func checkWorld(t *testing.T, w impl.World) bool {
	t.Helper()
	given, untouched := guardedWorld(t, w)
	ok, safe, done, way, report := impl.WorldOk(given), impl.WorldSafe(given), impl.WorldDone(given), impl.WorldWay(given), impl.Report(given)
	untouched("what asks a world")
	if ok != worldFits(w) {
		t.Fatalf("%v: %s", ok, worldText(w))
	}
	if !ok {
		if safe || done || len(way) > 0 || report != "" {
			t.Fatalf("not ok, but %v %v %v %q: %s", safe, done, way, report, worldText(w))
		}
		return false
	}
	a := townOf(w)
	if safe != a.isSafe() || done != a.isDone() || !slices.Equal(way, a.ends()) || report != a.report() {
		t.Fatalf("%v %v %v %q, not %v %v %v %q: %s", safe, done, way, report, a.isSafe(), a.isDone(), a.ends(), a.report(), worldText(w))
	}
	return true
}

// checkEvent holds a world behind an event against what it must be (P60).
func checkEvent(t *testing.T, w impl.World, e impl.Event) (impl.World, bool) {
	t.Helper()
	given, untouched := guardedWorld(t, w)
	next, could := impl.WorldDo(given, e)
	untouched("WorldDo")
	if !worldFits(w) {
		if could || !sameWorld(next, impl.World{}) {
			t.Fatalf("%+v: not ok, but %v, %s", e, could, worldText(next))
		}
		return next, could
	}
	a := townOf(w)
	if can := a.event(e); could != can || !sameWorld(next, a.World) {
		t.Fatalf("%+v: %v, not %v, %s, not %s, behind %s", e, could, can, worldText(next), worldText(a.World), worldText(w))
	}
	if !impl.WorldOk(next) || !could && !sameWorld(next, w) {
		t.Fatalf("%+v: %v, %s behind %s", e, could, worldText(next), worldText(w))
	}
	return next, could
}

// checkCalm holds a world behind rounds against what it must be.
func checkCalm(t *testing.T, w impl.World, rounds int) impl.World {
	t.Helper()
	given, untouched := guardedWorld(t, w)
	next := impl.WorldCalm(given, rounds)
	untouched("WorldCalm")
	if !worldFits(w) {
		if !sameWorld(next, impl.World{}) {
			t.Fatalf("%d rounds: not ok, but %s", rounds, worldText(next))
		}
		return next
	}
	a := townOf(w)
	for range min(rounds, 100) {
		a.round()
	}
	if !sameWorld(next, a.World) || !impl.WorldOk(next) {
		t.Fatalf("%d rounds: %s, not %s, behind %s", rounds, worldText(next), worldText(a.World), worldText(w))
	}
	return next
}

// randomUnder is a text that may be under way: what some agent, or one who decides, may hear; what nobody can read; or what is for nobody.
func randomUnder(dice *rand.Rand, w impl.World) string {
	m := randomMsg(dice)
	switch dice.IntN(8) {
	case 0, 1, 2:
		m = randomCall(dice, len(w.Agents), w.Reps[dice.IntN(3)])
	case 3, 4:
		m = randomHearing(dice, w.Agents[dice.IntN(len(w.Agents))])
	case 5:
		return []string{"", "1", strings.Repeat("1", 400), strings.Repeat("\x00", 399), "\xff"}[dice.IntN(5)]
	}
	text := sealed(headText(m))
	if dice.IntN(8) == 0 {
		text = spoil(dice, text, "0123456789 -:;,\xff")
	}
	return text
}

// randomWorld is a world that is ok, though none may come to be so.
func randomWorld(dice *rand.Rand) impl.World {
	many := 1 + dice.IntN(3)
	w := impl.World{Code: randomProgram(dice), Policy: 1 + dice.IntN(3)}
	for id := range many {
		a := randomAgent(dice, w.Code, 15)
		a.Id = id
		w.Agents = append(w.Agents, a)
	}
	for id := 10; id <= 12; id++ {
		r := randomRep(dice, many)
		for r.Id != id {
			r = randomRep(dice, many)
		}
		w.Reps = append(w.Reps, r)
	}
	for range []int{0, 1, 5, 45 + dice.IntN(6)}[dice.IntN(4)] {
		w.Radio = append(w.Radio, randomUnder(dice, w))
	}
	return w
}

// randomEvent is anything that may happen, or can't.
func randomEvent(dice *rand.Rand, w impl.World) impl.Event {
	e := impl.Event{Kind: 1 + dice.IntN(8), Num: randomBytes(dice)}
	e.At = []int{0, 1, 2, 10, 11, 12}[dice.IntN(6)]
	if e.Kind >= 2 && e.Kind <= 6 {
		e.At = dice.IntN(len(w.Radio) + 1)
	}
	switch dice.IntN(25) {
	case 0:
		e.Kind = []int{-1, 0, 9, 1 << 40, -1 << 63}[dice.IntN(5)]
	case 1:
		e.At = []int{-1, 3, 9, 13, 50, 1<<63 - 1, -1 << 63}[dice.IntN(7)]
	case 2:
		e.Num = []int{-1 << 63, 1<<63 - 1, 400, 1000}[dice.IntN(4)]
	}
	return e
}
