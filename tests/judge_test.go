package tests

import (
	"fmt"
	"maps"
	"math/rand/v2"
	"regexp"
	"slices"
	"strings"

	"loop.example/fugleman/impl"
)

// judge is one who decides, made of maps, without the program's ones.
type judge struct {
	many    int
	id      int
	log     string
	promise int
	acc     map[int]impl.Entry
	chosen  []impl.Entry
	lead    int
	yes     map[int]int
	seen    int
	wait    int
	time    int
	got     []int
	best    map[int]impl.Entry
	wrote   map[int]int
	told    []impl.Msg
}

// repRecordForm is how records of those who decide are written.
var repRecordForm = func() *regexp.Regexp {
	vote := `(?:-1|0|[1-9][0-9]{0,2})`
	votes := `(` + vote + `(?:,` + vote + `)*)`
	ballot := `([1-9][0-9]{0,3})`
	inst := `([0-9]|1[01])`
	return regexp.MustCompile(`^(?:p ` + ballot + `|a ` + inst + ` ` + ballot + ` ` + votes + `|k ` + inst + ` ` + votes + `)$`)
}()

// isWholeVotes says whether votes are as many as there are agents, and ok.
func isWholeVotes(many int, votes []int) bool {
	return len(votes) == many && votesFit(votes)
}

func newJudge(many int, id int) *judge {
	return &judge{many: many, id: id, acc: map[int]impl.Entry{}, best: map[int]impl.Entry{}, yes: map[int]int{}, wrote: map[int]int{}, got: slices.Repeat([]int{-1}, many)}
}

// takes goes on by a record, if it can come next.
func (j *judge) takes(record string) bool {
	found := repRecordForm.FindStringSubmatch(record)
	switch {
	case found == nil:
		return false
	case found[1] != "":
		ballot := mustNum(found[1])
		if ballot <= j.promise {
			return false
		}
		j.promise = ballot
	case found[2] != "":
		e := impl.Entry{Inst: mustNum(found[2]), Ballot: mustNum(found[3]), Votes: mustNums(found[4])}
		if e.Ballot < j.promise || !isWholeVotes(j.many, e.Votes) {
			return false
		}
		j.promise = e.Ballot
		j.acc[e.Inst] = e
	default:
		e := impl.Entry{Inst: mustNum(found[5]), Votes: mustNums(found[6])}
		if e.Inst != len(j.chosen) || !isWholeVotes(j.many, e.Votes) {
			return false
		}
		j.chosen = append(j.chosen, e)
	}
	return true
}

// judgeOf is a judge by a log, as far as that can be read, and whether its records can be so.
func judgeOf(many int, id int, log string) (*judge, bool) {
	j := newJudge(many, id)
	records, size := readAs(log)
	j.log = log[:size]
	for _, record := range records {
		if !j.takes(record) {
			return j, false
		}
	}
	return j, true
}

func entriesByInst(list []impl.Entry) map[int]impl.Entry {
	byInst := map[int]impl.Entry{}
	for _, e := range list {
		byInst[e.Inst] = e
	}
	return byInst
}

func entriesInOrder(byInst map[int]impl.Entry) []impl.Entry {
	var list []impl.Entry
	for _, inst := range slices.Sorted(maps.Keys(byInst)) {
		list = append(list, byInst[inst])
	}
	return list
}

func countEach(list []int) map[int]int {
	seen := map[int]int{}
	for _, num := range list {
		seen[num]++
	}
	return seen
}

// rep is the program's one that says the same.
func (j *judge) rep() impl.Rep {
	return impl.Rep{Id: j.id, Log: j.log, Up: true, Promise: j.promise, Acc: entriesInOrder(j.acc), Chosen: j.chosen, Lead: j.lead, Yes: slices.Sorted(maps.Keys(j.yes)), Seen: j.seen, Wait: j.wait, Time: j.time, Got: j.got, Best: entriesInOrder(j.best), Wrote: slices.Sorted(maps.Keys(j.wrote))}
}

// judgeAs is a judge with all that one of the program's has.
func judgeAs(many int, r impl.Rep) *judge {
	j, _ := judgeOf(many, r.Id, r.Log)
	j.lead, j.seen, j.wait, j.time = r.Lead, r.Seen, r.Wait, r.Time
	j.yes, j.wrote, j.best = countEach(r.Yes), countEach(r.Wrote), entriesByInst(r.Best)
	j.got = slices.Clone(r.Got)
	return j
}

func sameEntries(a []impl.Entry, b []impl.Entry) bool {
	return slices.EqualFunc(a, b, sameEntry)
}

func sameRep(a impl.Rep, b impl.Rep) bool {
	if a.Id != b.Id || a.Log != b.Log || a.Up != b.Up || a.Promise != b.Promise || a.Lead != b.Lead || a.Seen != b.Seen || a.Wait != b.Wait || a.Time != b.Time {
		return false
	}
	if !slices.Equal(a.Yes, b.Yes) || !slices.Equal(a.Got, b.Got) || !slices.Equal(a.Wrote, b.Wrote) {
		return false
	}
	return sameEntries(a.Acc, b.Acc) && sameEntries(a.Chosen, b.Chosen) && sameEntries(a.Best, b.Best)
}

// idsFit says whether these are some of those who decide, each once, in order.
func idsFit(list []int) bool {
	for _, want := range [][]int{nil, {10}, {11}, {12}, {10, 11}, {10, 12}, {11, 12}, {10, 11, 12}} {
		if slices.Equal(list, want) {
			return true
		}
	}
	return false
}

// repFits says whether one of the program's is as the document asks.
func repFits(many int, r impl.Rep) bool {
	if r.Id < 10 || r.Id > 12 || many < 1 || many > 3 || len(r.Log) > 6000 {
		return false
	}
	j, ok := judgeOf(many, r.Id, r.Log)
	if !ok || !r.Up {
		return ok && sameRep(r, impl.Rep{Id: r.Id, Log: r.Log})
	}
	if j.log != r.Log || j.promise != r.Promise || !sameEntries(entriesInOrder(j.acc), r.Acc) || !sameEntries(j.chosen, r.Chosen) {
		return false
	}
	none := r.Lead == 0 && len(r.Yes) == 0 && len(r.Best) == 0 && len(r.Wrote) == 0
	own := r.Lead == r.Promise && (r.Lead-(r.Id-10))%3 == 0 && slices.Contains(r.Yes, r.Id)
	if !none && !own || !idsFit(r.Yes) || !idsFit(r.Wrote) || !isWholeVotes(many, r.Got) {
		return false
	}
	if !msgFits(impl.Msg{Kind: 3, From: 10, To: 10, List: r.Best}) {
		return false
	}
	for _, e := range r.Best {
		if len(e.Votes) != many {
			return false
		}
	}
	return r.Seen >= 0 && r.Seen <= 9999 && r.Wait >= 0 && r.Wait <= 6 && r.Time >= 0 && r.Time <= 3
}

// adds writes a record, if there is room.
func (j *judge) adds(record string) bool {
	longer := j.log + recordText(record)
	if len(longer) > 6000 {
		return false
	}
	if !j.takes(record) {
		panic("can't come next: " + record)
	}
	j.log = longer
	return true
}

func (j *judge) tells(m impl.Msg, to ...int) {
	for _, id := range to {
		one := changedMsg(m, func(m *impl.Msg) { m.From, m.To = j.id, id })
		j.told = append(j.told, one)
	}
}

// rest are all others of those who decide.
func (j *judge) rest() []int {
	return map[int][]int{10: {11, 12}, 11: {10, 12}, 12: {10, 11}}[j.id]
}

func (j *judge) leadsNoMore() {
	j.lead, j.time = 0, 0
	j.yes, j.wrote, j.best = map[int]int{}, map[int]int{}, map[int]impl.Entry{}
}

func (j *judge) patience() int {
	return map[int]int{10: 2, 11: 4, 12: 6}[j.id]
}

func (j *judge) leads() bool {
	return j.lead > 0 && len(j.yes) >= 2
}

func (j *judge) ticks() {
	if j.leads() {
		j.drives()
		return
	}
	if j.wait < j.patience() {
		j.wait++
		return
	}
	j.wait = 0
	ballot := j.id - 10
	for ballot/3 <= max(j.promise, j.seen)/3 {
		ballot += 3
	}
	if ballot > 9999 || !j.adds(fmt.Sprint("p ", ballot)) {
		return
	}
	j.leadsNoMore()
	j.lead, j.yes, j.best = ballot, map[int]int{j.id: 1}, maps.Clone(j.acc)
	j.tells(impl.Msg{Kind: 2, Ballot: ballot}, j.rest()...)
}

func (j *judge) drives() {
	n := len(j.chosen)
	j.tells(impl.Msg{Kind: 7, Ballot: j.lead, Inst: n}, j.rest()...)
	if n == 12 {
		return
	}
	e := j.acc[n]
	if e.Ballot != j.lead {
		best, there := j.best[n]
		missing := countEach(j.got)[-1]
		switch {
		case there:
			e = best
		case missing == j.many:
			return
		case missing > 0 && j.time < 3:
			j.time++
			return
		default:
			e.Votes = j.got
		}
		if !j.adds(fmt.Sprint("a ", n, " ", j.lead, " ", numsText(e.Votes))) {
			return
		}
		j.wrote = map[int]int{j.id: 1}
	}
	j.tells(impl.Msg{Kind: 5, Ballot: j.lead, Inst: n, Votes: e.Votes}, j.rest()...)
}

// learns writes what was decided.
func (j *judge) learns(votes []int) bool {
	if !j.adds(fmt.Sprint("k ", len(j.chosen), " ", numsText(votes))) {
		return false
	}
	j.got, j.time, j.wrote = slices.Repeat([]int{-1}, j.many), 0, map[int]int{}
	return true
}

func (j *judge) tellsChosen(inst int, to ...int) {
	j.tells(impl.Msg{Kind: 9, Inst: inst, Votes: j.chosen[inst].Votes}, to...)
}

func (j *judge) hears(m impl.Msg) {
	if !msgFits(m) || m.To != j.id || m.From == j.id {
		return
	}
	n := len(j.chosen)
	if m.From < 10 {
		if m.Kind != 1 || m.From >= j.many {
			return
		}
		if m.Inst < n {
			j.tellsChosen(m.Inst, m.From)
		}
		if m.Inst == n && len(m.Votes) == 1 && m.Votes[0] >= 0 {
			j.got[m.From] = m.Votes[0]
		}
		return
	}
	if low := m.Ballot < j.promise; low && (m.Kind == 2 || m.Kind == 5 || m.Kind == 7) {
		j.tells(impl.Msg{Kind: 4, Ballot: j.promise}, m.From)
		return
	}
	switch m.Kind {
	case 2:
		j.hearsAsk(m)
	case 3, 4:
		j.hearsAnswer(m)
	case 5:
		j.hearsWrite(m)
	case 6:
		e := j.acc[n]
		if !j.leads() || m.Ballot != j.lead || m.Inst != n || e.Ballot != j.lead {
			return
		}
		j.wrote[j.id], j.wrote[m.From] = 1, 1
		if j.learns(e.Votes) {
			j.tellsChosen(n, append(countFrom(0, j.many), j.rest()...)...)
		}
	case 7:
		j.wait = 0
		if j.lead > 0 && m.Ballot > j.lead {
			j.leadsNoMore()
		}
		if m.Inst > n {
			j.tells(impl.Msg{Kind: 8, Inst: n}, m.From)
		}
	case 8:
		if m.Inst < n {
			j.tellsChosen(m.Inst, m.From)
		}
	case 9:
		if m.Inst == n && n < 12 && isWholeVotes(j.many, m.Votes) {
			j.learns(m.Votes)
		}
	}
}

// hearsAsk is asked for a ballot that is not below its promise.
func (j *judge) hearsAsk(m impl.Msg) {
	if m.Ballot == j.promise && j.lead > 0 {
		j.tells(impl.Msg{Kind: 4, Ballot: j.promise}, m.From)
		return
	}
	if m.Ballot > j.promise {
		if !j.adds(fmt.Sprint("p ", m.Ballot)) {
			return
		}
		j.leadsNoMore()
		j.wait = 0
	}
	j.tells(impl.Msg{Kind: 3, Ballot: m.Ballot, List: entriesInOrder(j.acc)}, m.From)
}

// hearsAnswer hears that a ballot was promised, or refused.
func (j *judge) hearsAnswer(m impl.Msg) {
	if m.Kind == 4 {
		j.seen = max(j.seen, m.Ballot)
		if j.lead > 0 && m.Ballot > j.lead {
			j.leadsNoMore()
			j.wait = j.patience()
		}
		return
	}
	for _, e := range m.List {
		if len(e.Votes) != j.many {
			return
		}
	}
	if j.lead == 0 || m.Ballot != j.lead {
		return
	}
	j.yes[m.From] = 1
	for _, e := range m.List {
		if j.best[e.Inst].Ballot < e.Ballot {
			j.best[e.Inst] = e
		}
	}
}

// hearsWrite is asked to write by a ballot that is not below its promise.
func (j *judge) hearsWrite(m impl.Msg) {
	if m.Ballot == j.lead || m.Ballot == 0 || m.Inst == 12 || !isWholeVotes(j.many, m.Votes) {
		return
	}
	if j.acc[m.Inst].Ballot != m.Ballot {
		if !j.adds(fmt.Sprint("a ", m.Inst, " ", m.Ballot, " ", numsText(m.Votes))) {
			return
		}
		j.leadsNoMore()
	}
	j.wait = 0
	j.tells(impl.Msg{Kind: 6, Ballot: m.Ballot, Inst: m.Inst}, m.From)
}

// repAnswers are all answers of one who decides.
type repAnswers struct {
	ok     bool
	ticked impl.Rep
	told   []impl.Msg
	heard  impl.Rep
	back   []impl.Msg
	fallen impl.Rep
	risen  impl.Rep
}

func sameRepAnswers(a repAnswers, b repAnswers) bool {
	return a.ok == b.ok && sameRep(a.ticked, b.ticked) && sameMsgs(a.told, b.told) && sameRep(a.heard, b.heard) && sameMsgs(a.back, b.back) && sameRep(a.fallen, b.fallen) && sameRep(a.risen, b.risen)
}

// repMeant are all answers that one who decides must give.
func repMeant(many int, r impl.Rep, m impl.Msg, bytes int) repAnswers {
	if !repFits(many, r) {
		return repAnswers{}
	}
	if !r.Up {
		j, _ := judgeOf(many, r.Id, r.Log)
		return repAnswers{ok: true, ticked: r, heard: r, fallen: r, risen: j.rep()}
	}
	ticks, hears := judgeAs(many, r), judgeAs(many, r)
	ticks.ticks()
	hears.hears(m)
	longer := hears.log
	if m.Kind == 0 {
		longer = ticks.log
	}
	kept := len(r.Log) + max(0, min(bytes, len(longer)-len(r.Log)))
	return repAnswers{ok: true, ticked: ticks.rep(), told: ticks.told, heard: hears.rep(), back: hears.told, fallen: impl.Rep{Id: r.Id, Log: longer[:kept]}, risen: r}
}

// paddedLog is a log with promises behind its records, as many as leave so much room; and what is promised last. The records ahead promise less than 10.
func paddedLog(ahead string, room int) (string, int) {
	size := impl.LogMax - room - len(ahead)
	short := 0
	for (size-7*short)%8 != 0 {
		short++
	}
	log := ahead
	for _, ballot := range append(countFrom(10, short), countFrom(100, (size-7*short)/8)...) {
		log += recordText(fmt.Sprint("p ", ballot))
	}
	return log, 99 + (size-7*short)/8
}

// randomWhole are whole votes.
func randomWhole(dice *rand.Rand, many int) []int {
	var votes []int
	for range many {
		votes = append(votes, []int{-1, 0, 0, 1, 5, 127}[dice.IntN(6)])
	}
	return votes
}

func randomBallot(dice *rand.Rand, promise int) int {
	return max(0, min(9999, promise+[]int{-9999, -3, -1, 0, 0, 0, 0, 1, 2, 3, 4, 100, 9999}[dice.IntN(13)]))
}

// randomEntries are entries of whole votes, ascending.
func randomEntries(dice *rand.Rand, many int, promise int) []impl.Entry {
	var list []impl.Entry
	often := dice.IntN(5)
	for inst := range 12 {
		if dice.IntN(12) < often {
			list = append(list, impl.Entry{Inst: inst, Ballot: max(1, randomBallot(dice, promise)), Votes: randomWhole(dice, many)})
		}
	}
	return list
}

// randomRepLog writes this and that.
func randomRepLog(dice *rand.Rand, j *judge) {
	high := []int{3, 30, 9999}[dice.IntN(3)]
	known := []int{0, 1, 3, 12}[dice.IntN(4)]
	for range dice.IntN(12) + known {
		next := min(11, max(0, len(j.chosen)+dice.IntN(4)-1))
		switch dice.IntN(3) {
		case 0:
			if ballot := j.promise + 1 + dice.IntN(high); ballot <= 9999 {
				j.adds(fmt.Sprint("p ", ballot))
			}
		case 1:
			if ballot := j.promise + dice.IntN(3); ballot >= 1 && ballot <= 9999 {
				j.adds(fmt.Sprint("a ", next, " ", ballot, " ", numsText(randomWhole(dice, j.many))))
			}
		}
		if len(j.chosen) < known {
			j.adds(fmt.Sprint("k ", len(j.chosen), " ", numsText(randomWhole(dice, j.many))))
		}
	}
}

// randomLead has one lead, or want to, what it promised last being its own.
func randomLead(dice *rand.Rand, j *judge) {
	ballot := j.promise + 1
	for ballot%3 != j.id-10 {
		ballot++
	}
	if ballot > 9999 || !j.adds(fmt.Sprint("p ", ballot)) {
		return
	}
	j.lead, j.best = ballot, entriesByInst(randomEntries(dice, j.many, ballot))
	j.yes[j.id] = 1
	for _, id := range j.rest() {
		if dice.IntN(2) == 0 {
			j.yes[id] = 1
		}
		if dice.IntN(4) == 0 {
			j.wrote[id] = 1
		}
	}
	if n := len(j.chosen); n < 12 && dice.IntN(2) == 0 {
		j.adds(fmt.Sprint("a ", n, " ", ballot, " ", numsText(randomWhole(dice, j.many))))
	}
}

// randomRep is one who decides that is ok, though none may come to be so.
func randomRep(dice *rand.Rand, many int) impl.Rep {
	j := newJudge(many, 10+dice.IntN(3))
	randomRepLog(dice, j)
	if dice.IntN(30) == 0 {
		log, _ := paddedLog("", 12+dice.IntN(30))
		j, _ = judgeOf(many, j.id, log)
	}
	if dice.IntN(5) == 0 {
		return impl.Rep{Id: j.id, Log: j.log + []string{"", "", "3:", "5:p 99", "\x00"}[dice.IntN(5)]}
	}
	if dice.IntN(3) > 0 {
		randomLead(dice, j)
	}
	j.seen, j.wait, j.time = randomBallot(dice, j.promise), dice.IntN(7), dice.IntN(4)
	j.got = randomWhole(dice, many)
	if dice.IntN(3) == 0 {
		j.got = slices.Repeat([]int{[]int{-1, 5}[dice.IntN(2)]}, many)
	}
	return j.rep()
}

// randomCall is a message that one who decides may hear.
func randomCall(dice *rand.Rand, many int, r impl.Rep) impl.Msg {
	from := 10 + dice.IntN(3)
	if dice.IntN(5) == 0 {
		from = dice.IntN(3)
	}
	m := impl.Msg{Kind: 1 + dice.IntN(9), From: from, To: r.Id, Ballot: randomBallot(dice, r.Promise)}
	m.Inst = max(0, min(12, len(r.Chosen)+[]int{-12, -1, 0, 0, 0, 0, 1, 12}[dice.IntN(8)]))
	switch {
	case from < 10:
		m.Kind, m.Votes = 1, []int{dice.IntN(129) - 1}
	case m.Kind == 3:
		m.List = randomEntries(dice, many, r.Promise)
	case m.Kind == 6:
		m.Ballot, m.Inst = r.Promise, len(r.Chosen)
	case m.Kind == 5 || m.Kind == 9:
		m.Votes = randomWhole(dice, many)
	}
	switch dice.IntN(16) {
	case 0:
		m.To = 10 + dice.IntN(3)
	case 1:
		m.Kind = dice.IntN(11)
	case 2:
		m.Votes = randomVotes(dice, 0)
	case 3:
		m.List = randomEntries(dice, 1+dice.IntN(3), r.Promise)
	case 4:
		return randomMsg(dice)
	case 5:
		m.Ballot = []int{-1, 0, 9999, 10000, r.Lead, r.Seen}[dice.IntN(6)]
	}
	return m
}

// spoilRep changes a part of one who decides, so that it is not ok, or still is.
func spoilRep(dice *rand.Rand, r impl.Rep) impl.Rep {
	nums := []int{-1, 0, 1, 2, 3, 4, 6, 7, 9999, 10000, r.Promise, r.Promise + 3, -1 << 40}
	num := nums[dice.IntN(len(nums))]
	ids := [][]int{nil, {10}, {11}, {12}, {10, 11}, {11, 12}, {12, 11}, {10, 10}, {9, 10}, {12, 13}, {10, 11, 12}, {0}, {r.Id}}[dice.IntN(13)]
	entries := randomEntries(dice, 1+dice.IntN(3), max(1, r.Promise))
	switch dice.IntN(16) {
	case 0:
		r.Id = []int{-1, 0, 9, 10, 11, 12, 13}[dice.IntN(7)]
	case 1:
		r.Up = !r.Up
	case 2:
		r.Log = spoil(dice, r.Log, "0123456789:;pak,- \x00")
	case 3:
		r.Log += recordText([]string{"p 1", "p 9999", "p 10000", "p 0", "a 0 1 0", "a 11 9999 0", "k 0 0", "k 0 -1,-1", "k 1 0", "i 0", ""}[dice.IntN(11)])
	case 4:
		r.Promise = num
	case 5:
		r.Acc = entries
	case 6:
		r.Chosen = entries
	case 7:
		r.Lead = num
	case 8:
		r.Yes = ids
	case 9:
		r.Seen = num
	case 10:
		r.Wait = num
	case 11:
		r.Time = num
	case 12:
		r.Got = randomVotes(dice, 0)
	case 13:
		r.Best = entries
	case 14:
		r.Wrote = ids
	case 15:
		r.Lead, r.Yes, r.Best, r.Wrote = 0, nil, nil, nil
	}
	return r
}

// headsOf are messages in a few words each, as they are written, without their sums.
func headsOf(list []impl.Msg) string {
	var heads []string
	for _, m := range list {
		heads = append(heads, headText(m))
	}
	return strings.Join(heads, " | ")
}
