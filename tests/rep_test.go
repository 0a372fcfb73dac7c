package tests

import (
	"fmt"
	"math/rand/v2"
	"slices"
	"strings"
	"testing"

	"loop.example/fugleman/impl"
)

func TestRepLimits(t *testing.T) {
	if impl.WaitMax != 6 || impl.TimeMax != 3 {
		t.Error("limits of waiting")
	}
}

// guardedRep is a copy of one who decides with room behind its lists, and a check that nothing was written there.
func guardedRep(t *testing.T, r impl.Rep) (impl.Rep, func(what string)) {
	t.Helper()
	checks := make([]func(what string), 6)
	r.Acc, checks[0] = guardedEntries(t, r.Acc)
	r.Chosen, checks[1] = guardedEntries(t, r.Chosen)
	r.Best, checks[2] = guardedEntries(t, r.Best)
	r.Yes, checks[3] = guarded(t, r.Yes, 99)
	r.Got, checks[4] = guarded(t, r.Got, 99)
	r.Wrote, checks[5] = guarded(t, r.Wrote, 99)
	return r, func(what string) {
		t.Helper()
		for _, check := range checks {
			check(what)
		}
	}
}

// askRep asks for all answers of one who decides, its parts being guarded.
func askRep(t *testing.T, many int, r impl.Rep, m impl.Msg, bytes int) repAnswers {
	t.Helper()
	given, untouched := guardedRep(t, r)
	msg, msgUntouched := guardedMsg(t, m)
	var all repAnswers
	all.ok = impl.RepOk(many, given)
	all.ticked, all.told = impl.RepTick(many, given)
	all.heard, all.back = impl.RepHear(many, given, msg)
	all.fallen = impl.RepFall(many, given, msg, bytes)
	all.risen = impl.RepRise(many, given)
	untouched("one who decides")
	msgUntouched("one who decides")
	return all
}

// checkRep holds all answers of one who decides against what they must be, asks for what P52, P53 and P56 say of them, and says whether it is ok.
func checkRep(t *testing.T, many int, r impl.Rep, m impl.Msg, bytes int) bool {
	t.Helper()
	is, want := askRep(t, many, r, m, bytes), repMeant(many, r, m, bytes)
	if !sameRepAnswers(is, want) {
		t.Fatalf("%+v of %d, %+v and %d bytes: %+v, not %+v", r, many, m, bytes, is, want)
	}
	if !is.ok {
		return false
	}
	for _, next := range []impl.Rep{is.ticked, is.heard, is.risen} {
		if !impl.RepOk(many, next) || r.Up && (next.Promise < r.Promise || len(next.Chosen) < len(r.Chosen) || !sameEntries(next.Chosen[:len(r.Chosen)], r.Chosen) || !strings.HasPrefix(next.Log, r.Log)) {
			t.Fatalf("%+v of %d and %+v: then %+v", r, many, m, next)
		}
	}
	if !impl.RepOk(many, is.fallen) || is.fallen.Up || !strings.HasPrefix(is.fallen.Log, r.Log) {
		t.Fatalf("%+v of %d and %+v: fallen %+v", r, many, m, is.fallen)
	}
	for _, msg := range append(slices.Clone(is.told), is.back...) {
		if !impl.MsgOk(msg) || msg.From != r.Id || msg.To == r.Id {
			t.Fatalf("%+v of %d and %+v: told %+v", r, many, m, msg)
		}
	}
	for _, msg := range is.told {
		if msg.Ballot != is.ticked.Lead {
			t.Fatalf("%+v of %d: told %+v", r, many, msg)
		}
	}
	return true
}

// repBy is one who decides, up, with these records.
func repBy(t *testing.T, many int, id int, records ...string) impl.Rep {
	t.Helper()
	r := impl.RepRise(many, impl.Rep{Id: id, Log: logText(records...)})
	if r.Log != logText(records...) || !r.Up {
		t.Fatalf("%q: %+v", records, r)
	}
	return r
}

// leader is one that leads the ballot that it promised last.
func leader(t *testing.T, many int, id int, records ...string) impl.Rep {
	t.Helper()
	r := repBy(t, many, id, records...)
	r.Lead, r.Yes = r.Promise, []int{10, 11, 12}
	if !impl.RepOk(many, r) || r.Lead == 0 {
		t.Fatalf("%+v", r)
	}
	return r
}

func wholeOf(many int, vote int) []int {
	return slices.Repeat([]int{vote}, many)
}

func TestP51New(t *testing.T) {
	for _, id := range []int{-1 << 63, -1, 0, 1, 2, 9, 10, 11, 12, 13, 100, 1<<63 - 1} {
		for _, many := range []int{-1 << 63, -1, 0, 1, 2, 3, 4, 10, 1<<63 - 1} {
			r := impl.RepNew(id, many)
			if id < 10 || id > 12 || many < 1 || many > 3 {
				if !sameRep(r, impl.Rep{}) {
					t.Errorf("%d of %d: %+v", id, many, r)
				}
				continue
			}
			if !sameRep(r, impl.Rep{Id: id, Up: true, Got: wholeOf(many, -1)}) || !impl.RepOk(many, r) {
				t.Errorf("%d of %d: %+v", id, many, r)
			}
			for _, bytes := range somePlaces(6) {
				fallen := impl.RepFall(many, r, impl.Msg{}, bytes)
				if !sameRep(fallen, impl.Rep{Id: id}) || !sameRep(impl.RepRise(many, fallen), r) {
					t.Errorf("%d of %d: fallen %+v", id, many, fallen)
				}
				checkRep(t, many, r, impl.Msg{Kind: impl.MsgAsk, From: 10 + (id-9)%3, To: id, Ballot: 5}, bytes)
			}
		}
	}
}

// tickUntil ticks so often, nothing being told until the last time.
func tickUntil(t *testing.T, many int, r impl.Rep, times int) (impl.Rep, []impl.Msg) {
	t.Helper()
	for i := 1; i < times; i++ {
		next, told := impl.RepTick(many, r)
		if len(told) != 0 || next.Wait != r.Wait+1 {
			t.Fatalf("%d: %+v %+v", i, next, told)
		}
		next.Wait = r.Wait
		if !sameRep(next, r) {
			t.Fatalf("%d: %+v, not %+v", i, next, r)
		}
		r.Wait++
	}
	return impl.RepTick(many, r)
}

func TestP52Begins(t *testing.T) {
	t.Parallel()
	for _, c := range []struct {
		id     int
		times  int
		asks   string
		ballot int
	}{{10, 3, "2 10 11 3 0 - - | 2 10 12 3 0 - -", 3}, {11, 5, "2 11 10 4 0 - - | 2 11 12 4 0 - -", 4}, {12, 7, "2 12 10 5 0 - - | 2 12 11 5 0 - -", 5}} {
		r, told := tickUntil(t, 2, impl.RepNew(c.id, 2), c.times)
		if headsOf(told) != c.asks || r.Lead != c.ballot || r.Promise != c.ballot || !slices.Equal(r.Yes, []int{c.id}) || r.Wait != 0 || r.Log != recordText(fmt.Sprint("p ", c.ballot)) {
			t.Errorf("%d: %+v %s", c.id, r, headsOf(told))
		}
		// That none answers makes it begin again, by a greater ballot.
		r, told = tickUntil(t, 2, r, c.times)
		if r.Lead != c.ballot+3 || len(told) != 2 || told[0].Ballot != c.ballot+3 || !slices.Equal(r.Yes, []int{c.id}) {
			t.Errorf("%d: %+v %s", c.id, r, headsOf(told))
		}
		checkRep(t, 2, r, told[0], 5)
	}
	for _, c := range []struct{ id, promise, seen, ballot int }{
		{10, 1, 0, 3}, {10, 2, 0, 3}, {10, 3, 0, 6}, {10, 4, 0, 6}, {10, 5, 0, 6}, {11, 3, 0, 7}, {11, 5, 0, 7}, {12, 3, 0, 8}, {12, 5, 0, 8}, {12, 6, 0, 11},
		{10, 1, 5, 6}, {10, 5, 1, 6}, {11, 1, 6, 10}, {11, 6, 1, 10}, {12, 0, 100, 104}, {12, 0, 9995, 9998}, {11, 0, 9998, 0}, {11, 0, 9995, 9997}, {10, 0, 9998, 9999}, {10, 9998, 0, 9999}, {10, 0, 9999, 0}, {10, 9999, 0, 0}, {11, 9996, 0, 0}, {12, 9997, 3, 0}, {12, 9995, 3, 9998},
	} {
		var records []string
		if c.promise > 0 {
			records = append(records, fmt.Sprint("p ", c.promise))
		}
		r := repBy(t, 1, c.id, records...)
		r.Seen, r.Wait = c.seen, 2*(c.id-9)
		next, told := impl.RepTick(1, r)
		checkRep(t, 1, r, impl.Msg{}, 5)
		if next.Lead != c.ballot || next.Wait != 0 || (len(told) == 2) != (c.ballot > 0) || next.Seen != c.seen {
			t.Errorf("%+v: %+v %s", c, next, headsOf(told))
		}
		if c.ballot == 0 && next.Log != r.Log {
			t.Errorf("%+v: %+v", c, next)
		}
	}
	// One that has it by too few goes on waiting, and keeps it if there is no greater one.
	r := repBy(t, 1, 10, "p 9999")
	r.Lead, r.Yes, r.Best, r.Time, r.Wrote = 9999, []int{10}, []impl.Entry{{Inst: 3, Ballot: 2, Votes: []int{0}}}, 2, []int{12}
	next, told := tickUntil(t, 1, r, 3)
	if r.Wait = 0; !sameRep(next, r) || len(told) != 0 {
		t.Errorf("%+v %s", next, headsOf(told))
	}
}

func TestP52Leads(t *testing.T) {
	t.Parallel()
	r := repBy(t, 2, 11, "k 0 5,5", "a 0 1 5,5", "a 3 2 -1,7", "p 4")
	r.Lead, r.Yes, r.Got = 4, []int{11}, []int{1, 2}
	// By itself it does not lead as yet.
	if next, told := impl.RepTick(2, r); len(told) != 0 || next.Wait != 1 {
		t.Errorf("%+v %s", next, headsOf(told))
	}
	r.Yes = []int{11, 12}
	for _, c := range []struct {
		got  []int
		time int
		told string
		log  string
		then int
	}{
		{[]int{-1, -1}, 0, "7 11 10 4 1 - - | 7 11 12 4 1 - -", "", 0},
		{[]int{-1, -1}, 3, "7 11 10 4 1 - - | 7 11 12 4 1 - -", "", 3},
		{[]int{-1, 7}, 0, "7 11 10 4 1 - - | 7 11 12 4 1 - -", "", 1},
		{[]int{7, -1}, 2, "7 11 10 4 1 - - | 7 11 12 4 1 - -", "", 3},
		{[]int{7, -1}, 3, "7 11 10 4 1 - - | 7 11 12 4 1 - - | 5 11 10 4 1 7,-1 - | 5 11 12 4 1 7,-1 -", "10:a 1 4 7,-1;", 3},
		{[]int{7, 0}, 0, "7 11 10 4 1 - - | 7 11 12 4 1 - - | 5 11 10 4 1 7,0 - | 5 11 12 4 1 7,0 -", "9:a 1 4 7,0;", 0},
	} {
		r.Got, r.Time, r.Wait = c.got, c.time, 5
		next, told := impl.RepTick(2, r)
		if headsOf(told) != c.told || writtenBehind(t, r.Log, next.Log) != c.log || next.Time != c.then || next.Wait != 5 || !slices.Equal(next.Got, c.got) {
			t.Errorf("%+v: %+v %s", c, next, headsOf(told))
		}
		if wrote := []int{11}; c.log != "" && !slices.Equal(next.Wrote, wrote) || c.log == "" && len(next.Wrote) > 0 {
			t.Errorf("%+v: %+v", c, next)
		}
		checkRep(t, 2, r, impl.Msg{}, 8)
		// Behind its proposal it tells it as often as it ticks, and writes it once.
		if c.log != "" {
			again, toldAgain := impl.RepTick(2, next)
			if !sameRep(again, next) || headsOf(toldAgain) != c.told {
				t.Errorf("%+v: %+v %s", c, again, headsOf(toldAgain))
			}
			next.Got, next.Time, next.Wrote = []int{-1, -1}, 1, nil
			if again, toldAgain = impl.RepTick(2, next); !sameRep(again, next) || headsOf(toldAgain) != c.told {
				t.Errorf("%+v: %+v %s", c, again, headsOf(toldAgain))
			}
		}
	}
}

// What was told by those who promised comes ahead of what agents told, and what was written by another ballot is not what it wrote itself.
func TestP52ProposesWhatItWasTold(t *testing.T) {
	t.Parallel()
	r := leader(t, 2, 11, "k 0 5,5", "a 1 3 6,6", "p 4")
	for _, c := range []struct {
		best []impl.Entry
		got  []int
		want string
	}{
		{nil, []int{1, 2}, "1,2"},
		{[]impl.Entry{{Inst: 1, Ballot: 3, Votes: []int{6, 6}}}, []int{1, 2}, "6,6"},
		{[]impl.Entry{{Inst: 1, Ballot: 9999, Votes: []int{-1, -1}}}, []int{1, 2}, "-1,-1"},
		{[]impl.Entry{{Inst: 1, Ballot: 2, Votes: []int{8, -1}}}, []int{-1, -1}, "8,-1"},
		{[]impl.Entry{{Inst: 0, Ballot: 2, Votes: []int{9, 9}}, {Inst: 1, Ballot: 2, Votes: []int{8, -1}}, {Inst: 2, Ballot: 2, Votes: []int{9, 9}}}, []int{-1, 3}, "8,-1"},
		{[]impl.Entry{{Inst: 0, Ballot: 2, Votes: []int{9, 9}}, {Inst: 2, Ballot: 2, Votes: []int{9, 9}}}, []int{1, 2}, "1,2"},
		{[]impl.Entry{{Inst: 0, Ballot: 2, Votes: []int{9, 9}}, {Inst: 2, Ballot: 2, Votes: []int{9, 9}}}, []int{-1, -1}, ""},
	} {
		r.Best, r.Got = c.best, c.got
		next, told := impl.RepTick(2, r)
		checkRep(t, 2, r, impl.Msg{}, 8)
		if c.want == "" {
			if len(told) != 2 || !sameRep(next, r) {
				t.Errorf("%+v: %+v %s", c, next, headsOf(told))
			}
			continue
		}
		if writtenBehind(t, r.Log, next.Log) != recordText("a 1 4 "+c.want) || len(told) != 4 || numsText(told[2].Votes) != c.want || numsText(told[3].Votes) != c.want || told[3].To != 12 {
			t.Errorf("%+v: %+v %s", c, next, headsOf(told))
		}
		if !sameEntries(next.Best, r.Best) {
			t.Errorf("%+v: %+v", c, next)
		}
	}
}

func TestP52DecidedAll(t *testing.T) {
	t.Parallel()
	var records []string
	for inst := range impl.InstMax {
		records = append(records, fmt.Sprint("k ", inst, " 0"))
		r := leader(t, 1, 12, append(slices.Clone(records), "p 5")...)
		r.Got = []int{3}
		next, told := impl.RepTick(1, r)
		all := inst == impl.InstMax-1
		if all != (len(told) == 2) || all != (next.Log == r.Log) || told[0].Inst != inst+1 || told[1].Kind != impl.MsgBeat {
			t.Errorf("%d: %+v %s", inst, next, headsOf(told))
		}
		checkRep(t, 1, r, impl.Msg{Kind: impl.MsgChosen, From: 10, To: 12, Inst: inst + 1, Votes: []int{0}}, 4)
		checkRep(t, 1, r, impl.Msg{Kind: impl.MsgReport, From: 0, To: 12, Inst: inst + 1, Votes: []int{0}}, 4)
		checkRep(t, 1, r, impl.Msg{Kind: impl.MsgBeat, From: 10, To: 12, Ballot: 9999, Inst: 12}, 4)
		r.Lead, r.Yes = 0, nil
		checkRep(t, 1, r, impl.Msg{Kind: impl.MsgWrite, From: 10, To: 12, Ballot: 9999, Inst: inst + 1, Votes: []int{0}}, 4)
	}
}

// fullRep is one who decides, with records, and promises behind them, that leave so much room; it leads what it promised last, if that is its own.
func fullRep(t *testing.T, id int, room int, records ...string) impl.Rep {
	t.Helper()
	log, promise := paddedLog(logText(records...), room)
	r := impl.RepRise(1, impl.Rep{Id: id, Log: log})
	if len(r.Log) != impl.LogMax-room || r.Promise != promise {
		t.Fatalf("%d: %d %d", room, len(r.Log), r.Promise)
	}
	return r
}

func TestP52FullLogs(t *testing.T) {
	t.Parallel()
	begun, proposed := 0, 0
	for room := range 24 {
		for id := 10; id <= 12; id++ {
			r := fullRep(t, id, room, "k 0 5", "a 1 2 6", "a 2 3 7")
			r.Wait, r.Time, r.Got = 2*(id-9), 2, []int{4}
			next, told := impl.RepTick(1, r)
			checkRep(t, 1, r, impl.Msg{}, 3)
			if room < len("5:p 840;") {
				if r.Wait = 0; !sameRep(next, r) || len(told) != 0 {
					t.Fatalf("%d: %+v %s", room, next, headsOf(told))
				}
			} else if len(told) != 2 || next.Lead == 0 || next.Time != 0 {
				t.Fatalf("%d: %+v %s", room, next, headsOf(told))
			} else {
				begun++
			}
			if r.Promise%3 != id-10 {
				continue
			}
			// Without room one keeps the ballot that it would lead, and all that belongs to it.
			r.Wait, r.Lead, r.Yes, r.Wrote, r.Best = 2*(id-9), r.Promise, []int{id}, []int{12}, r.Acc
			next, told = impl.RepTick(1, r)
			checkRep(t, 1, r, impl.Msg{}, 3)
			if fits := room >= len("5:p 840;"); fits != (next.Lead > r.Lead) || fits != (len(told) == 2) || next.Wait != 0 || next.Time == 2 == fits {
				t.Fatalf("%d: %+v %s", room, next, headsOf(told))
			}
			r.Yes, r.Best = []int{10, 11, 12}, nil
			next, told = impl.RepTick(1, r)
			checkRep(t, 1, r, impl.Msg{}, 3)
			// The beat does not hang on what it writes.
			if fits := room >= len("9:a 1 840 4;"); fits != (len(told) == 4) || !fits && (len(told) != 2 || told[0].Kind != impl.MsgBeat || !sameRep(next, r)) {
				t.Fatalf("%d: %+v %s", room, next, headsOf(told))
			} else if fits {
				proposed++
			}
		}
	}
	if begun < 20 || proposed < 8 {
		t.Error(begun, proposed)
	}
}

// manyCalls are messages of each kind, from each, by ballots around these, of commands around the next one.
func manyCalls(many int, r impl.Rep, ballots ...int) []impl.Msg {
	votes := [][]int{nil, wholeOf(many, 0), wholeOf(many, -1), wholeOf(many, 127), wholeOf(many%3+1, 0)}
	lists := [][]impl.Entry{nil, {{Inst: 1, Ballot: 3, Votes: wholeOf(many, 9)}}, {{Inst: 1, Ballot: 3, Votes: wholeOf(many, 9)}, {Inst: 2, Ballot: 1, Votes: wholeOf(many%3+1, 9)}}}
	var all []impl.Msg
	for kind := 1; kind <= 9; kind++ {
		for _, from := range []int{0, 1, 2, 10, 11, 12} {
			for i, ballot := range ballots {
				for j, inst := range []int{0, len(r.Chosen) - 1, len(r.Chosen), len(r.Chosen) + 1, 12} {
					m := impl.Msg{Kind: kind, From: from, To: r.Id, Ballot: ballot, Inst: max(0, inst), Votes: votes[(i+j+from)%5], List: lists[(i+j)%3]}
					all = append(all, m, impl.Msg{Kind: kind, From: from, To: r.Id, Ballot: ballot, Inst: max(0, inst), Votes: wholeOf(many, 3)})
				}
			}
		}
	}
	return all
}

func TestP53EachKind(t *testing.T) {
	t.Parallel()
	for _, many := range []int{1, 3} {
		w := func(vote int) string { return numsText(wholeOf(many, vote)) }
		for id := 10; id <= 12; id++ {
			own := fmt.Sprint(3 + id - 10)
			written := fmt.Sprint("a 1 ", own, " ", w(8))
			one := repBy(t, many, id, "a 1 1 "+w(6), "k 0 "+w(5), "p "+own)
			two := leader(t, many, id, "a 1 1 "+w(6), "k 0 "+w(5), "p "+own)
			three := leader(t, many, id, "k 0 "+w(5), "p "+own, written)
			three.Yes, three.Wrote, three.Best, three.Time = []int{id, 12}, []int{id}, three.Acc, 2
			three.Yes = slices.Compact(three.Yes)
			four := impl.RepNew(id, many)
			for _, r := range []impl.Rep{one, two, three, four} {
				for _, m := range manyCalls(many, r, 0, 1, r.Promise-1, r.Promise, r.Promise+1, 9999) {
					m.Ballot = max(0, m.Ballot)
					checkRep(t, many, r, m, 7)
					if m.From == id {
						if next, told := impl.RepHear(many, r, m); !sameRep(next, r) || len(told) != 0 {
							t.Fatalf("%+v of itself: %+v", m, next)
						}
					}
				}
			}
		}
	}
}

// golden holds what one hears against its log, what it tells, and what it comes to.
func golden(t *testing.T, many int, r impl.Rep, m impl.Msg, added string, told string, check func(next impl.Rep) bool) impl.Rep {
	t.Helper()
	next, list := impl.RepHear(many, r, m)
	if writtenBehind(t, r.Log, next.Log) != added || headsOf(list) != told || !check(next) {
		t.Errorf("%+v and %+v: %+v %s", r, m, next, headsOf(list))
	}
	checkRep(t, many, r, m, len(added)-1)
	return next
}

func TestP53Reports(t *testing.T) {
	t.Parallel()
	r := repBy(t, 2, 11, "k 0 5,-1", "k 1 0,0")
	report := func(from int, inst int, votes ...int) impl.Msg {
		return impl.Msg{Kind: impl.MsgReport, From: from, To: 11, Inst: inst, Votes: votes}
	}
	r = golden(t, 2, r, report(1, 2, 7), "", "", func(next impl.Rep) bool { return slices.Equal(next.Got, []int{-1, 7}) })
	r = golden(t, 2, r, report(0, 2, 0), "", "", func(next impl.Rep) bool { return slices.Equal(next.Got, []int{0, 7}) })
	r = golden(t, 2, r, report(0, 2, 127), "", "", func(next impl.Rep) bool { return slices.Equal(next.Got, []int{127, 7}) })
	same := func(next impl.Rep) bool { return sameRep(next, r) }
	for _, m := range []impl.Msg{report(0, 2, -1), report(0, 2), report(0, 2, 1, 1), report(0, 3, 1), report(0, 12, 1), report(2, 2, 1), report(2, 0, 1), report(10, 2, 1), report(10, 0, 1), report(12, 2, 1), report(11, 2, 1), report(3, 2, 1)} {
		golden(t, 2, r, m, "", "", same)
	}
	golden(t, 2, r, report(0, 0, 1), "", "9 11 0 0 0 5,-1 -", same)
	golden(t, 2, r, report(1, 1), "", "9 11 1 0 1 0,0 -", same)
	golden(t, 2, r, report(1, 1, 1, 2, 3), "", "9 11 1 0 1 0,0 -", same)
	// Its other parts are not looked at.
	full := report(1, 2, 9)
	full.Ballot, full.List = 9999, []impl.Entry{{Inst: 1, Ballot: 1, Votes: []int{1}}}
	golden(t, 2, r, full, "", "", func(next impl.Rep) bool { return slices.Equal(next.Got, []int{127, 9}) })
	// When all is decided what an agent tells is kept all the same.
	var records []string
	for inst := range 12 {
		records = append(records, fmt.Sprint("k ", inst, " 0,0"))
	}
	golden(t, 2, repBy(t, 2, 11, records...), report(1, 12, 9), "", "", func(next impl.Rep) bool { return slices.Equal(next.Got, []int{-1, 9}) })
}

func TestP53Promises(t *testing.T) {
	t.Parallel()
	r := repBy(t, 1, 10, "a 0 1 1", "p 6")
	r.Lead, r.Yes, r.Best = 6, []int{10}, []impl.Entry{{Inst: 0, Ballot: 1, Votes: []int{1}}, {Inst: 2, Ballot: 5, Votes: []int{2}}}
	promise := func(from int, ballot int, list ...impl.Entry) impl.Msg {
		return impl.Msg{Kind: impl.MsgPromise, From: from, To: 10, Ballot: ballot, List: list}
	}
	e := func(inst int, ballot int, votes ...int) impl.Entry {
		return impl.Entry{Inst: inst, Ballot: ballot, Votes: votes}
	}
	same := func(next impl.Rep) bool { return sameRep(next, r) }
	golden(t, 1, r, promise(12, 5), "", "", same)
	golden(t, 1, r, promise(12, 7), "", "", same)
	golden(t, 1, r, promise(12, 0), "", "", same)
	golden(t, 1, r, promise(12, 6, e(0, 9, 1, 1)), "", "", same)
	golden(t, 1, r, promise(12, 6, e(0, 9, 1), e(1, 9, 1, 1, 1)), "", "", same)
	golden(t, 1, r, promise(1, 6), "", "", same)
	golden(t, 1, r, promise(12, 6), "", "", func(next impl.Rep) bool {
		return slices.Equal(next.Yes, []int{10, 12}) && sameEntries(next.Best, r.Best) && next.Wait == r.Wait
	})
	next := golden(t, 1, r, promise(12, 6, e(0, 2, 3), e(1, 1, 4), e(2, 5, 5), e(11, 9999, 6)), "", "", func(next impl.Rep) bool {
		return slices.Equal(next.Yes, []int{10, 12}) && sameEntries(next.Best, []impl.Entry{e(0, 2, 3), e(1, 1, 4), e(2, 5, 2), e(11, 9999, 6)})
	})
	next = golden(t, 1, next, promise(11, 6, e(0, 1, 7), e(2, 4, 7), e(11, 9999, 7)), "", "", func(other impl.Rep) bool {
		return slices.Equal(other.Yes, []int{10, 11, 12}) && sameEntries(other.Best, next.Best)
	})
	// Once more, and late, it still counts what was written.
	golden(t, 1, next, promise(11, 6, e(2, 6, 8)), "", "", func(next impl.Rep) bool {
		return slices.Equal(next.Yes, []int{10, 11, 12}) && next.Best[2].Votes[0] == 8 && next.Best[2].Ballot == 6
	})
	// Of one that leads nothing no promise counts, not even one of ballot 0.
	r = repBy(t, 1, 10, "p 6")
	golden(t, 1, r, promise(12, 6, e(0, 2, 3)), "", "", same)
	golden(t, 1, r, promise(12, 0, e(0, 2, 3)), "", "", same)
	r = impl.RepNew(10, 1)
	golden(t, 1, r, promise(12, 0, e(0, 2, 3)), "", "", same)
}

func TestP53Refusals(t *testing.T) {
	t.Parallel()
	for id := 10; id <= 12; id++ {
		r := leader(t, 1, id, fmt.Sprint("p ", 3+id-10))
		r.Best, r.Wrote, r.Time, r.Wait, r.Seen = []impl.Entry{{Inst: 0, Ballot: 1, Votes: []int{1}}}, []int{id}, 2, 1, 4
		no := func(ballot int) impl.Msg {
			return impl.Msg{Kind: impl.MsgNo, From: 10 + (id-9)%3, To: id, Ballot: ballot}
		}
		for ballot := range 10 {
			golden(t, 1, r, no(ballot), "", "", func(next impl.Rep) bool {
				want := r
				want.Seen = max(4, ballot)
				if ballot > r.Lead {
					want.Lead, want.Yes, want.Best, want.Wrote, want.Time, want.Wait = 0, nil, nil, nil, 0, 2*(id-9)
				}
				return sameRep(next, want)
			})
		}
		idle := repBy(t, 1, id, "p 5")
		idle.Wait, idle.Time = 1, 3
		golden(t, 1, idle, no(9999), "", "", func(next impl.Rep) bool { return next.Seen == 9999 && next.Wait == 1 && next.Time == 3 })
	}
}

func TestP53Writes(t *testing.T) {
	t.Parallel()
	write := func(ballot int, inst int, votes ...int) impl.Msg {
		return impl.Msg{Kind: impl.MsgWrite, From: 12, To: 10, Ballot: ballot, Inst: inst, Votes: votes}
	}
	r := repBy(t, 2, 10, "k 0 0,0", "a 1 2 6,6", "p 5")
	r.Wait, r.Time, r.Got = 2, 1, []int{4, 4}
	same := func(next impl.Rep) bool { return sameRep(next, r) }
	wrote := func(next impl.Rep) bool {
		return next.Wait == 0 && next.Time == 0 && next.Lead == 0 && slices.Equal(next.Got, []int{4, 4})
	}
	next := golden(t, 2, r, write(5, 1, 7, -1), "10:a 1 5 7,-1;", "6 10 12 5 1 - -", func(next impl.Rep) bool {
		return wrote(next) && next.Promise == 5 && sameEntries(next.Acc, []impl.Entry{{Inst: 1, Ballot: 5, Votes: []int{7, -1}}})
	})
	// Again it is told again, whatever the votes are, and not written.
	next.Wait, next.Time = 2, 3
	golden(t, 2, next, write(5, 1, 7, -1), "", "6 10 12 5 1 - -", func(next impl.Rep) bool { return next.Wait == 0 && next.Time == 3 })
	golden(t, 2, next, write(5, 1, 0, 0), "", "6 10 12 5 1 - -", func(next impl.Rep) bool { return next.Acc[0].Votes[0] == 7 })
	golden(t, 2, r, write(9999, 0, 1, 1), "12:a 0 9999 1,1;", "6 10 12 9999 0 - -", func(next impl.Rep) bool { return wrote(next) && next.Promise == 9999 && len(next.Acc) == 2 })
	golden(t, 2, r, write(6, 11, 1, 1), "10:a 11 6 1,1;", "6 10 12 6 11 - -", func(next impl.Rep) bool { return wrote(next) && next.Promise == 6 && next.Acc[1].Inst == 11 })
	for _, m := range []impl.Msg{write(5, 12, 1, 1), write(9999, 12, 1, 1), write(6, 1), write(6, 1, 1), write(6, 1, 1, 1, 1), write(6, 1, -2, 1), write(6, 1, 128, 1), write(10000, 1, 1, 1)} {
		golden(t, 2, r, m, "", "", same)
	}
	// Below it is refused, whatever else is wrong with it.
	for _, m := range []impl.Msg{write(4, 1, 7, 7), write(2, 1, 6, 6), write(0, 1, 7, 7), write(4, 12, 7, 7), write(1, 1)} {
		golden(t, 2, r, m, "", "4 10 12 5 0 - -", same)
	}
	r = impl.RepNew(10, 2)
	golden(t, 2, r, write(0, 0, 1, 1), "", "", same)
	golden(t, 2, r, write(1, 0, 1, 1), "9:a 0 1 1,1;", "6 10 12 1 0 - -", wroteFirst)
	// One that leads does not write by its own ballot for another one, and leads no more by a greater one.
	r = leader(t, 2, 10, "p 6")
	r.Best, r.Wrote, r.Time, r.Wait = []impl.Entry{{Inst: 0, Ballot: 1, Votes: []int{1, 1}}}, []int{10}, 3, 1
	golden(t, 2, r, write(6, 0, 1, 1), "", "", same)
	golden(t, 2, r, write(8, 0, 1, 1), "9:a 0 8 1,1;", "6 10 12 8 0 - -", func(next impl.Rep) bool {
		return next.Lead == 0 && len(next.Yes)+len(next.Best)+len(next.Wrote) == 0 && next.Time == 0 && next.Wait == 0
	})
}

func wroteFirst(next impl.Rep) bool {
	return next.Promise == 1 && len(next.Acc) == 1
}

func TestP53Wrote(t *testing.T) {
	t.Parallel()
	r := leader(t, 2, 11, "k 0 0,0", "p 4", "a 1 4 7,-1")
	r.Wrote, r.Got, r.Time, r.Wait, r.Best = []int{11}, []int{7, -1}, 3, 2, []impl.Entry{{Inst: 1, Ballot: 3, Votes: []int{7, -1}}}
	wrote := func(from int, ballot int, inst int) impl.Msg {
		return impl.Msg{Kind: impl.MsgWrote, From: from, To: 11, Ballot: ballot, Inst: inst}
	}
	decided := func(next impl.Rep) bool {
		return len(next.Chosen) == 2 && slices.Equal(next.Got, []int{-1, -1}) && next.Time == 0 && len(next.Wrote) == 0 && next.Lead == 4 && next.Wait == 2 && sameEntries(next.Best, r.Best) && sameEntry(next.Chosen[1], impl.Entry{Inst: 1, Votes: []int{7, -1}})
	}
	tells := "9 11 0 0 1 7,-1 - | 9 11 1 0 1 7,-1 - | 9 11 10 0 1 7,-1 - | 9 11 12 0 1 7,-1 -"
	next := golden(t, 2, r, wrote(12, 4, 1), "8:k 1 7,-1;", tells, decided)
	same := func(next impl.Rep) bool { return sameRep(next, r) }
	for _, m := range []impl.Msg{wrote(12, 3, 1), wrote(12, 5, 1), wrote(12, 0, 1), wrote(12, 4, 0), wrote(12, 4, 2), wrote(12, 4, 12), wrote(1, 4, 1), wrote(11, 4, 1)} {
		golden(t, 2, r, m, "", "", same)
	}
	// Who wrote it may be forgotten: it wrote it itself all the same.
	r.Wrote = nil
	golden(t, 2, r, wrote(10, 4, 1), "8:k 1 7,-1;", tells, decided)
	r.Wrote = []int{10}
	golden(t, 2, r, wrote(10, 4, 1), "8:k 1 7,-1;", tells, decided)
	// What comes once more is of a command that is decided.
	r = next
	golden(t, 2, r, wrote(10, 4, 1), "", "", same)
	// It must lead, and have written that by the ballot that it leads.
	r = leader(t, 2, 11, "k 0 0,0", "p 4", "a 1 4 7,-1")
	r.Yes = []int{11}
	golden(t, 2, r, wrote(10, 4, 1), "", "", same)
	r = leader(t, 2, 11, "k 0 0,0", "a 1 3 7,-1", "p 4")
	golden(t, 2, r, wrote(10, 4, 1), "", "", same)
	r = leader(t, 2, 11, "k 0 0,0", "p 4", "a 2 4 7,-1")
	golden(t, 2, r, wrote(10, 4, 1), "", "", same)
	r = repBy(t, 2, 11, "k 0 0,0", "p 4", "a 1 4 7,-1")
	golden(t, 2, r, wrote(10, 4, 1), "", "", same)
	golden(t, 2, r, wrote(10, 0, 1), "", "", same)
}

func TestP53BeatsAndLacks(t *testing.T) {
	t.Parallel()
	call := func(kind int, ballot int, inst int) impl.Msg {
		return impl.Msg{Kind: kind, From: 12, To: 10, Ballot: ballot, Inst: inst}
	}
	r := repBy(t, 1, 10, "k 0 3", "k 1 4", "p 5")
	r.Wait, r.Time = 2, 2
	same := func(next impl.Rep) bool { return sameRep(next, r) }
	still := func(next impl.Rep) bool {
		want := r
		want.Wait = 0
		return sameRep(next, want)
	}
	golden(t, 1, r, call(impl.MsgBeat, 4, 3), "", "4 10 12 5 0 - -", same)
	golden(t, 1, r, call(impl.MsgBeat, 0, 0), "", "4 10 12 5 0 - -", same)
	golden(t, 1, r, call(impl.MsgBeat, 5, 0), "", "", still)
	golden(t, 1, r, call(impl.MsgBeat, 5, 2), "", "", still)
	golden(t, 1, r, call(impl.MsgBeat, 5, 3), "", "8 10 12 0 2 - -", still)
	golden(t, 1, r, call(impl.MsgBeat, 9999, 12), "", "8 10 12 0 2 - -", still)
	golden(t, 1, r, call(impl.MsgLack, 0, 0), "", "9 10 12 0 0 3 -", same)
	golden(t, 1, r, call(impl.MsgLack, 9999, 1), "", "9 10 12 0 1 4 -", same)
	golden(t, 1, r, call(impl.MsgLack, 5, 2), "", "", same)
	golden(t, 1, r, call(impl.MsgLack, 5, 12), "", "", same)
	r = leader(t, 1, 10, "k 0 3", "p 6")
	r.Wait, r.Time, r.Best, r.Wrote = 2, 2, []impl.Entry{{Inst: 1, Ballot: 3, Votes: []int{7}}}, []int{10, 11}
	golden(t, 1, r, call(impl.MsgBeat, 5, 3), "", "4 10 12 6 0 - -", same)
	golden(t, 1, r, call(impl.MsgBeat, 6, 3), "", "8 10 12 0 1 - -", still)
	golden(t, 1, r, call(impl.MsgBeat, 8, 1), "", "", func(next impl.Rep) bool {
		return next.Lead == 0 && next.Time == 0 && next.Wait == 0 && len(next.Yes)+len(next.Best)+len(next.Wrote) == 0 && next.Promise == 6
	})
	golden(t, 1, r, call(impl.MsgBeat, 8, 2), "", "8 10 12 0 1 - -", func(next impl.Rep) bool { return next.Lead == 0 })
}

func TestP53Chosen(t *testing.T) {
	t.Parallel()
	call := func(from int, inst int, votes ...int) impl.Msg {
		return impl.Msg{Kind: impl.MsgChosen, From: from, To: 10, Inst: inst, Votes: votes}
	}
	r := leader(t, 2, 10, "k 0 3,3", "p 6", "a 1 6 7,7")
	r.Got, r.Wait, r.Time, r.Best, r.Wrote = []int{7, 7}, 2, 2, []impl.Entry{{Inst: 1, Ballot: 3, Votes: []int{7, 7}}}, []int{10, 11}
	for _, from := range []int{11, 12} {
		golden(t, 2, r, call(from, 1, -1, 127), "10:k 1 -1,127;", "", func(next impl.Rep) bool {
			return next.Lead == 6 && next.Time == 0 && next.Wait == 2 && len(next.Wrote) == 0 && slices.Equal(next.Got, []int{-1, -1}) && sameEntries(next.Best, r.Best) && sameEntry(next.Chosen[1], impl.Entry{Inst: 1, Votes: []int{-1, 127}})
		})
	}
	for _, m := range []impl.Msg{call(11, 0, 3, 3), call(11, 0, 4, 4), call(11, 2, 3, 3), call(11, 12, 3, 3), call(11, 1), call(11, 1, 3), call(11, 1, 3, 3, 3), call(11, 1, 3, 128), call(1, 1, 3, 3), call(10, 1, 3, 3)} {
		golden(t, 2, r, m, "", "", func(next impl.Rep) bool { return sameRep(next, r) })
	}
	r = impl.RepNew(10, 2)
	for inst := range impl.InstMax {
		r = golden(t, 2, r, call(11, inst, inst, -1), recordText(fmt.Sprint("k ", inst, " ", inst, ",-1")), "", func(next impl.Rep) bool { return len(next.Chosen) == inst+1 })
	}
	golden(t, 2, r, call(11, impl.InstMax, 0, 0), "", "", func(next impl.Rep) bool { return sameRep(next, r) })
}

func TestP53NotForIt(t *testing.T) {
	t.Parallel()
	for _, r := range []impl.Rep{repBy(t, 1, 10, "k 0 3", "p 5"), leader(t, 1, 11, "k 0 3", "p 4", "a 1 4 7"), impl.RepNew(12, 1)} {
		for _, good := range manyCalls(1, r, r.Promise, r.Promise+4) {
			msgs := wrongMsgs(good)
			for _, to := range []int{0, 1, 2, 10, 11, 12} {
				if to != r.Id {
					msgs = append(msgs, changedMsg(good, func(m *impl.Msg) { m.To = to }))
				}
			}
			for _, m := range msgs {
				if next, told := impl.RepHear(1, r, m); !sameRep(next, r) || len(told) != 0 {
					t.Fatalf("%+v and %+v: %+v %s", r, m, next, headsOf(told))
				}
			}
		}
	}
}

func TestP53AnyReps(t *testing.T) {
	t.Parallel()
	dice := newDice(53)
	seen := map[string]int{}
	for range 6000 {
		many := 1 + dice.IntN(3)
		r := randomRep(dice, many)
		m := randomCall(dice, many, r)
		if dice.IntN(4) == 0 {
			m = impl.Msg{}
		}
		if !checkRep(t, many, r, m, randomBytes(dice)) {
			t.Fatalf("%+v of %d is not ok", r, many)
		}
		next, back := impl.RepHear(many, r, m)
		if !sameRep(next, r) || len(back) > 0 {
			seen[fmt.Sprint("heard ", m.Kind)]++
		}
		for _, m := range back {
			seen[fmt.Sprint("tells ", m.Kind)]++
		}
		_, told := impl.RepTick(many, r)
		for _, m := range told {
			seen[fmt.Sprint("ticks ", m.Kind)]++
		}
	}
	for _, what := range []string{"heard 1", "heard 2", "heard 3", "heard 4", "heard 5", "heard 6", "heard 7", "heard 8", "heard 9", "tells 3", "tells 4", "tells 6", "tells 8", "tells 9", "ticks 2", "ticks 5", "ticks 7"} {
		if seen[what] < 15 {
			t.Error(what, seen)
		}
	}
}

func TestRepSpoilt(t *testing.T) {
	t.Parallel()
	dice := newDice(4445)
	fine, wrong := 0, 0
	for range 6000 {
		many := 1 + dice.IntN(3)
		r := spoilRep(dice, randomRep(dice, many))
		if checkRep(t, many, r, randomCall(dice, many, r), randomBytes(dice)) {
			fine++
		} else {
			wrong++
		}
		for _, other := range []int{0, 1, 2, 3, 4, -1} {
			if impl.RepOk(other, r) != repFits(other, r) {
				t.Fatalf("%+v of %d", r, other)
			}
		}
	}
	if fine < 1000 || wrong < 1000 {
		t.Error(fine, wrong)
	}
}

func TestP54Below(t *testing.T) {
	t.Parallel()
	for _, r := range []impl.Rep{repBy(t, 2, 10, "a 0 3 1,1", "p 5"), leader(t, 2, 12, "a 0 3 1,1", "p 5"), packedRep(t, 10)} {
		for _, kind := range []int{impl.MsgAsk, impl.MsgWrite} {
			for ballot := range r.Promise {
				for _, inst := range []int{0, 1, 11, 12} {
					m := impl.Msg{Kind: kind, From: 11, To: r.Id, Ballot: ballot, Inst: inst, Votes: []int{1, 1}}
					next, told := impl.RepHear(2, r, m)
					if !sameRep(next, r) || len(told) != 1 || !sameMsg(told[0], impl.Msg{Kind: impl.MsgNo, From: r.Id, To: 11, Ballot: r.Promise}) {
						t.Fatalf("%+v and %+v: %+v %s", r, m, next, headsOf(told))
					}
				}
			}
		}
	}
}

// packedRep is one of two agents who has no room for any more.
func packedRep(t *testing.T, id int) impl.Rep {
	t.Helper()
	log := logText(append(slices.Repeat([]string{"a 0 20 1,1"}, 428), "p 21")...)
	r := impl.RepRise(2, impl.Rep{Id: id, Log: log})
	if r.Promise != 21 || len(r.Log) != impl.LogMax-1 {
		t.Fatalf("%d: %+v", len(r.Log), r.Promise)
	}
	return r
}

func TestP55Above(t *testing.T) {
	t.Parallel()
	one := repBy(t, 2, 11, "a 0 3 1,-1", "a 4 3 2,2", "p 4")
	one.Wait, one.Time, one.Got, one.Seen = 3, 2, []int{4, 5}, 100
	two := leader(t, 2, 11, "a 0 3 1,-1", "a 4 3 2,2", "p 4")
	two.Best, two.Wrote, two.Time, two.Wait = two.Acc, []int{11}, 2, 3
	three := impl.RepNew(11, 2)
	for _, r := range []impl.Rep{one, two, three} {
		for _, ballot := range []int{r.Promise + 1, r.Promise + 2, 100, 9998, 9999} {
			m := impl.Msg{Kind: impl.MsgAsk, From: 12, To: 11, Ballot: ballot}
			want := impl.Msg{Kind: impl.MsgPromise, From: 11, To: 12, Ballot: ballot, List: r.Acc}
			next, told := impl.RepHear(2, r, m)
			if len(told) != 1 || !sameMsg(told[0], want) || writtenBehind(t, r.Log, next.Log) != recordText(fmt.Sprint("p ", ballot)) {
				t.Fatalf("%+v and %d: %+v %s", r, ballot, next, headsOf(told))
			}
			after := impl.Rep{Id: 11, Log: next.Log, Up: true, Promise: ballot, Acc: r.Acc, Got: r.Got, Seen: r.Seen}
			if !sameRep(next, after) {
				t.Fatalf("%+v and %d: %+v, not %+v", r, ballot, next, after)
			}
			// Again the same, from another one too; it still waits then.
			next.Wait = 2
			for _, from := range []int{12, 10} {
				m.From, want.To = from, from
				again, toldAgain := impl.RepHear(2, next, m)
				if !sameRep(again, next) || len(toldAgain) != 1 || !sameMsg(toldAgain[0], want) {
					t.Fatalf("%+v and %d: again %+v %s", r, ballot, again, headsOf(toldAgain))
				}
			}
			// What it led is refused.
			if r.Lead > 0 {
				late := impl.Msg{Kind: impl.MsgPromise, From: 12, To: 11, Ballot: r.Lead, List: r.Acc}
				if again, toldAgain := impl.RepHear(2, next, late); !sameRep(again, next) || len(toldAgain) != 0 {
					t.Fatalf("%+v and %d: a promise that is late %+v %s", r, ballot, again, headsOf(toldAgain))
				}
				checkRep(t, 2, next, late, 0)
			}
			checkRep(t, 2, r, m, 4)
		}
		// Its own ballot, that it leads, it does not promise to another one.
		if r.Lead > 0 {
			golden(t, 2, r, impl.Msg{Kind: impl.MsgAsk, From: 12, To: 11, Ballot: r.Lead}, "", "4 11 12 4 0 - -", func(next impl.Rep) bool { return sameRep(next, r) })
		}
	}
	golden(t, 2, three, impl.Msg{Kind: impl.MsgAsk, From: 10, To: 11}, "", "3 11 10 0 0 - -", func(next impl.Rep) bool { return sameRep(next, three) })
	golden(t, 2, three, impl.Msg{Kind: impl.MsgAsk, From: 10, To: 11, Ballot: 10000}, "", "", func(next impl.Rep) bool { return sameRep(next, three) })
}

// Without room for a record nothing is done that hangs on it, and nothing is told.
func TestP55FullLogs(t *testing.T) {
	t.Parallel()
	told := map[int]int{}
	for room := range 16 {
		for id := 10; id <= 12; id++ {
			r := fullRep(t, id, room, "k 0 5", "a 1 2 6")
			from := 10 + (id-9)%3
			r.Wait, r.Time, r.Got, r.Seen = 1, 2, []int{4}, 7
			led := r
			led.Lead, led.Yes, led.Best = r.Promise, []int{10, 11, 12}, r.Acc
			reps := []impl.Rep{r}
			if r.Promise%3 == id-10 {
				reps = append(reps, led)
			}
			for _, r := range reps {
				for _, c := range []struct {
					m      impl.Msg
					record string
				}{
					{impl.Msg{Kind: impl.MsgAsk, Ballot: r.Promise + 1}, fmt.Sprint("p ", r.Promise+1)},
					{impl.Msg{Kind: impl.MsgAsk, Ballot: 9999}, "p 9999"},
					{impl.Msg{Kind: impl.MsgWrite, Ballot: r.Promise + 1, Inst: 3, Votes: []int{0}}, fmt.Sprint("a 3 ", r.Promise+1, " 0")},
					{impl.Msg{Kind: impl.MsgWrite, Ballot: 9999, Inst: 1, Votes: []int{-1}}, "a 1 9999 -1"},
					{impl.Msg{Kind: impl.MsgChosen, Inst: 1, Votes: []int{127}}, "k 1 127"},
				} {
					c.m.From, c.m.To = from, id
					next, list := impl.RepHear(1, r, c.m)
					checkRep(t, 1, r, c.m, 3)
					fits := len(recordText(c.record)) <= room
					if fits && next.Log != r.Log+recordText(c.record) || !fits && (!sameRep(next, r) || len(list) > 0) {
						t.Fatalf("%d and %+v: %+v %s", room, c.m, next, headsOf(list))
					}
					told[c.m.Kind] += len(list)
				}
			}
		}
	}
	if told[impl.MsgAsk] < 30 || told[impl.MsgWrite] < 10 {
		t.Error(told)
	}
}

// Without room who wrote is kept all the same.
func TestP53FullLogsWrote(t *testing.T) {
	t.Parallel()
	decided := 0
	for room := range 12 {
		_, promise := paddedLog("", room+len("9:a 0 840 4;"))
		id := 10 + promise%3
		log, _ := paddedLog("", room+len("9:a 0 840 4;"))
		r := impl.RepRise(1, impl.Rep{Id: id, Log: log + recordText(fmt.Sprint("a 0 ", promise, " 4"))})
		r.Lead, r.Yes, r.Time, r.Got = promise, []int{10, 11, 12}, 3, []int{4}
		from := 10 + (id-9)%3
		m := impl.Msg{Kind: impl.MsgWrote, From: from, To: id, Ballot: promise}
		checkRep(t, 1, r, m, 3)
		next, told := impl.RepHear(1, r, m)
		if len(r.Log) != impl.LogMax-room || !impl.RepOk(1, r) {
			t.Fatalf("%d: %d %+v", room, len(r.Log), r.Lead)
		}
		if room >= len("5:k 0 4;") {
			decided++
			if len(told) != 3 || len(next.Chosen) != 1 || len(next.Wrote) != 0 {
				t.Errorf("%d: %+v %s", room, next.Wrote, headsOf(told))
			}
			continue
		}
		r.Wrote = []int{min(id, from), max(id, from)}
		if len(told) != 0 || !sameRep(next, r) {
			t.Errorf("%d: %+v %s", room, next.Wrote, headsOf(told))
		}
	}
	if decided != 4 {
		t.Error(decided)
	}
}

// checkRepFall asks for what P56 and P57 say of one who is up.
func checkRepFall(t *testing.T, many int, r impl.Rep, m impl.Msg) {
	t.Helper()
	would, _ := impl.RepTick(many, r)
	if m.Kind != 0 {
		would, _ = impl.RepHear(many, r, m)
	}
	added := len(writtenBehind(t, r.Log, would.Log))
	for _, bytes := range somePlaces(added) {
		fallen := impl.RepFall(many, r, m, bytes)
		if !sameRep(fallen, impl.Rep{Id: r.Id, Log: would.Log[:len(r.Log)+max(0, min(bytes, added))]}) {
			t.Fatalf("%+v, %+v and %d: fallen %+v", r, m, bytes, fallen)
		}
		up := impl.RepRise(many, fallen)
		as := r
		if bytes >= added {
			as = would
		}
		want := impl.Rep{Id: r.Id, Log: as.Log, Up: true, Promise: as.Promise, Acc: as.Acc, Chosen: as.Chosen, Got: wholeOf(many, -1)}
		if !impl.RepOk(many, fallen) || !impl.RepOk(many, up) || !sameRep(up, want) {
			t.Fatalf("%+v, %+v and %d: risen %+v, not %+v", r, m, bytes, up, want)
		}
		if again := impl.RepRise(many, impl.RepFall(many, up, impl.Msg{Kind: 77}, bytes)); !sameRep(again, up) || !sameRep(impl.RepRise(many, up), up) {
			t.Fatalf("%+v, %+v and %d: risen again %+v", r, m, bytes, again)
		}
		checkRep(t, many, r, m, bytes)
		checkRep(t, many, fallen, m, bytes)
	}
}

func TestP56EachPlace(t *testing.T) {
	t.Parallel()
	proposes := leader(t, 2, 12, "k 0 5,5", "p 5")
	proposes.Got, proposes.Wait = []int{3, 4}, 6
	begins := repBy(t, 2, 12, "k 0 5,5", "p 4")
	begins.Wait = 6
	waits := impl.RepNew(11, 2)
	decides := leader(t, 2, 12, "k 0 5,5", "p 5", "a 1 5 -1,127")
	for _, r := range []impl.Rep{proposes, begins, waits, decides} {
		checkRepFall(t, 2, r, impl.Msg{})
		for _, m := range manyCalls(2, r, r.Promise, r.Promise+1) {
			if m.From >= impl.RepBase && m.Kind != impl.MsgReport {
				checkRepFall(t, 2, r, m)
			}
		}
		for _, m := range wrongMsgs(impl.Msg{Kind: impl.MsgAsk, From: 10, To: r.Id, Ballot: 99}) {
			checkRepFall(t, 2, r, m)
		}
	}
	// What it fell behind is in Acc just if it was written as a whole.
	record := recordText("a 1 5 3,4")
	for bytes := range len(record) + 2 {
		up := impl.RepRise(2, impl.RepFall(2, proposes, impl.Msg{}, bytes))
		if (len(up.Acc) == 1) != (bytes >= len(record)) || up.Lead != 0 || len(up.Chosen) != 1 || up.Promise != 5 {
			t.Errorf("%d: %+v", bytes, up)
		}
	}
}

func TestP56AnyReps(t *testing.T) {
	t.Parallel()
	dice := newDice(56)
	for range 400 {
		many := 1 + dice.IntN(3)
		r := randomRep(dice, many)
		if r.Up {
			checkRepFall(t, many, r, impl.Msg{})
			checkRepFall(t, many, r, randomCall(dice, many, r))
		}
	}
}

func TestP57TornLogs(t *testing.T) {
	t.Parallel()
	log := logText("p 1", "a 0 1 3,-1", "k 0 127,0", "a 11 9998 1,1", "a 0 9998 2,2", "k 1 -1,-1", "p 9999")
	fine := 0
	for at := range len(log) + 1 {
		for _, tail := range append(strings.Split("0123456789:;pak ,-\x00", ""), "", ";;", "9:k 2 0,0;x", "3:") {
			for _, r := range []impl.Rep{{Id: 11, Log: log[:at] + tail}, {Id: 11, Log: log[:at] + tail + log[min(at+1, len(log)):]}} {
				if !checkRep(t, 2, r, impl.Msg{}, 3) {
					continue
				}
				fine++
				up := impl.RepRise(2, r)
				records, size := readAs(r.Log)
				if !up.Up || up.Log != r.Log[:size] || up.Lead != 0 || up.Log != logText(records...) || !impl.RepOk(2, up) {
					t.Fatalf("%q: %+v", r.Log, up)
				}
				if again := impl.RepRise(2, impl.RepFall(2, up, impl.Msg{}, 0)); !sameRep(again, up) {
					t.Fatalf("%q: %+v", r.Log, again)
				}
			}
		}
	}
	if fine < 1000 {
		t.Error(fine)
	}
}

func TestP58Known(t *testing.T) {
	t.Parallel()
	var records []string
	for inst := range impl.InstMax {
		records = append(records, fmt.Sprint("k ", inst, " ", inst, ",-1,", 127-inst))
	}
	for known := range impl.InstMax + 1 {
		for _, r := range []impl.Rep{repBy(t, 3, 12, records[:known]...), leader(t, 3, 12, append(slices.Clone(records[:known]), "p 5")...)} {
			for inst := range known {
				for from := range 3 {
					for _, votes := range [][]int{nil, {-1}, {5}, {1, 2}, {1, 2, 3}} {
						m := impl.Msg{Kind: impl.MsgReport, From: from, To: 12, Inst: inst, Votes: votes}
						next, told := impl.RepHear(3, r, m)
						if !sameRep(next, r) || len(told) != 1 || !sameMsg(told[0], impl.Msg{Kind: impl.MsgChosen, From: 12, To: from, Inst: inst, Votes: []int{inst, -1, 127 - inst}}) {
							t.Fatalf("%+v and %+v: %+v %s", r, m, next, headsOf(told))
						}
					}
				}
			}
			checkRep(t, 3, r, impl.Msg{Kind: impl.MsgReport, From: 0, To: 12, Inst: known, Votes: []int{0}}, 0)
		}
	}
}

func TestP52RepOk(t *testing.T) {
	t.Parallel()
	good := leader(t, 2, 11, "a 0 3 1,-1", "k 0 1,-1", "p 4", "a 1 4 7,7")
	good.Yes, good.Best, good.Wrote, good.Seen, good.Wait, good.Time = []int{10, 11}, []impl.Entry{{Inst: 1, Ballot: 3, Votes: []int{7, 7}}}, []int{11, 12}, 9, 1, 1
	idle := repBy(t, 2, 11, "a 0 3 1,-1", "k 0 1,-1", "p 4", "a 1 4 7,7")
	down := impl.Rep{Id: 11, Log: idle.Log + "3:"}
	fits := func(want bool, r impl.Rep, change func(r *impl.Rep)) {
		t.Helper()
		change(&r)
		if checkRep(t, 2, r, impl.Msg{Kind: impl.MsgAsk, From: 10, To: 11, Ballot: 9}, 3) != want {
			t.Errorf("%+v: %v", r, !want)
		}
	}
	for _, r := range []impl.Rep{good, idle, down} {
		fits(true, r, func(r *impl.Rep) {})
		fits(false, r, func(r *impl.Rep) { r.Up = !r.Up })
		for _, id := range []int{-1, 0, 2, 9, 13, 100} {
			fits(false, r, func(r *impl.Rep) { r.Id = id })
		}
		for _, change := range []func(r *impl.Rep){
			func(r *impl.Rep) { r.Promise++ },
			func(r *impl.Rep) { r.Promise-- },
			func(r *impl.Rep) { r.Acc = append([]impl.Entry{{Inst: 5, Ballot: 1, Votes: []int{0, 0}}}, r.Acc...) },
			func(r *impl.Rep) { r.Chosen = append([]impl.Entry{{Inst: 0, Votes: []int{0, 0}}}, r.Chosen...) },
			func(r *impl.Rep) { r.Log += "4:p 03;" },
			func(r *impl.Rep) { r.Log += "3:p 4;" },
			func(r *impl.Rep) { r.Log += "3:i 0;" },
			func(r *impl.Rep) { r.Yes = []int{11, 10} },
			func(r *impl.Rep) { r.Yes = []int{11, 11} },
			func(r *impl.Rep) { r.Yes = []int{10, 11, 13} },
			func(r *impl.Rep) { r.Yes = []int{2, 11} },
			func(r *impl.Rep) { r.Yes = []int{10, 12} },
			func(r *impl.Rep) { r.Wrote = []int{12, 11} },
			func(r *impl.Rep) { r.Wrote = []int{10, 10} },
			func(r *impl.Rep) { r.Wrote = []int{9} },
			func(r *impl.Rep) { r.Wrote = []int{13} },
			func(r *impl.Rep) { r.Wrote = []int{0} },
			func(r *impl.Rep) { r.Got = []int{0} },
			func(r *impl.Rep) { r.Got = []int{0, 0, 0} },
			func(r *impl.Rep) { r.Got = []int{0, -2} },
			func(r *impl.Rep) { r.Got = []int{128, 0} },
			func(r *impl.Rep) { r.Best = []impl.Entry{{Inst: 12, Ballot: 1, Votes: []int{0, 0}}} },
			func(r *impl.Rep) { r.Best = []impl.Entry{{Inst: -1, Ballot: 1, Votes: []int{0, 0}}} },
			func(r *impl.Rep) { r.Best = []impl.Entry{{Inst: 0, Ballot: 0, Votes: []int{0, 0}}} },
			func(r *impl.Rep) { r.Best = []impl.Entry{{Inst: 0, Ballot: 10000, Votes: []int{0, 0}}} },
			func(r *impl.Rep) { r.Best = []impl.Entry{{Inst: 0, Ballot: 1, Votes: []int{0}}} },
			func(r *impl.Rep) { r.Best = []impl.Entry{{Inst: 0, Ballot: 1, Votes: []int{0, 0, 0}}} },
			func(r *impl.Rep) { r.Best = []impl.Entry{{Inst: 0, Ballot: 1, Votes: []int{0, 128}}} },
			func(r *impl.Rep) {
				r.Best = []impl.Entry{{Inst: 1, Ballot: 1, Votes: []int{0, 0}}, {Inst: 1, Ballot: 2, Votes: []int{0, 0}}}
			},
			func(r *impl.Rep) { r.Seen = -1 },
			func(r *impl.Rep) { r.Seen = 10000 },
			func(r *impl.Rep) { r.Wait = -1 },
			func(r *impl.Rep) { r.Wait = 7 },
			func(r *impl.Rep) { r.Time = -1 },
			func(r *impl.Rep) { r.Time = 4 },
		} {
			if r.Up || !strings.HasSuffix(r.Log, "3:") {
				fits(false, r, change)
			}
		}
	}
	for _, change := range []func(r *impl.Rep){
		func(r *impl.Rep) { r.Seen = 0 },
		func(r *impl.Rep) { r.Seen = 9999 },
		func(r *impl.Rep) { r.Wait = 0 },
		func(r *impl.Rep) { r.Wait = 6 },
		func(r *impl.Rep) { r.Time = 0 },
		func(r *impl.Rep) { r.Time = 3 },
		func(r *impl.Rep) { r.Got = []int{-1, 127} },
	} {
		fits(true, good, change)
		fits(true, idle, change)
	}
	fits(true, good, func(r *impl.Rep) { r.Yes = []int{11} })
	fits(true, good, func(r *impl.Rep) { r.Yes = []int{10, 11, 12} })
	fits(true, good, func(r *impl.Rep) { r.Yes, r.Best, r.Wrote = []int{11, 12}, nil, []int{10, 12} })
	fits(true, good, func(r *impl.Rep) {
		r.Best = []impl.Entry{{Inst: 0, Ballot: 9999, Votes: []int{-1, 127}}, {Inst: 11, Ballot: 1, Votes: []int{0, 0}}}
	})
	for _, lead := range []int{-1, 1, 3, 5, 7, 9999} {
		fits(false, good, func(r *impl.Rep) { r.Lead = lead })
		fits(false, idle, func(r *impl.Rep) { r.Lead = lead })
	}
	// The ballot must be its own.
	for id, want := range map[int]bool{10: false, 11: true, 12: false} {
		fits(want, good, func(r *impl.Rep) { r.Id, r.Yes = id, []int{10, 11, 12} })
	}
	// Who leads nothing has nothing that belongs to it.
	fits(false, good, func(r *impl.Rep) { r.Lead = 0 })
	fits(false, idle, func(r *impl.Rep) { r.Yes = []int{11} })
	fits(false, idle, func(r *impl.Rep) { r.Best = good.Best })
	fits(false, idle, func(r *impl.Rep) { r.Wrote = []int{11} })
	fits(true, idle, func(r *impl.Rep) { r.Time, r.Seen, r.Wait = 3, 9999, 6 })
	// The words for one that leads hold of ballot 0 as well, as long as nothing is promised: the first of them may have what belongs to it. It leads nothing all the same.
	for id, want := range map[int]bool{10: true, 11: false, 12: false} {
		r := impl.RepNew(id, 2)
		r.Yes, r.Wrote, r.Got, r.Time = []int{10, 11, 12}, []int{10}, []int{1, 2}, 2
		for kind := range 10 {
			if checkRep(t, 2, r, impl.Msg{Kind: kind, From: 10 + (id-9)%3, To: id, Votes: []int{0, 0}}, 3) != want {
				t.Errorf("%d: %v", id, !want)
			}
		}
		if next, told := impl.RepTick(2, r); want && (next.Wait != 1 || len(told) != 0 || next.Log != "") {
			t.Errorf("%+v %s", next, headsOf(told))
		}
		fits(false, r, func(r *impl.Rep) { r.Yes = []int{(id-9)%3 + 10} })
	}
	// Not up, all else is nothing.
	for _, change := range []func(r *impl.Rep){
		func(r *impl.Rep) { r.Promise = 4 },
		func(r *impl.Rep) { r.Acc = idle.Acc },
		func(r *impl.Rep) { r.Chosen = idle.Chosen },
		func(r *impl.Rep) { r.Lead = 4 },
		func(r *impl.Rep) { r.Yes = []int{11} },
		func(r *impl.Rep) { r.Seen = 1 },
		func(r *impl.Rep) { r.Wait = 1 },
		func(r *impl.Rep) { r.Time = 1 },
		func(r *impl.Rep) { r.Got = []int{-1, -1} },
		func(r *impl.Rep) { r.Best = good.Best },
		func(r *impl.Rep) { r.Wrote = []int{11} },
	} {
		fits(false, down, change)
	}
	// What is too long for a record can't be read; what is not is none of its records.
	for size, want := range map[int]bool{59: false, 60: false, 61: true, 62: true} {
		fits(want, down, func(r *impl.Rep) { r.Log = idle.Log + recordText(strings.Repeat("p", size)) })
	}
	// Empty lists are none, whatever they are made of.
	fits(true, down, func(r *impl.Rep) {
		r.Acc, r.Chosen, r.Yes, r.Got, r.Best, r.Wrote = []impl.Entry{}, []impl.Entry{}, []int{}, []int{}, make([]impl.Entry, 0, 3), make([]int, 0, 3)
	})
	for many, want := range map[int]bool{-1: false, 0: false, 1: false, 2: true, 3: false, 4: false} {
		for _, r := range []impl.Rep{good, idle, down} {
			if checkRep(t, many, r, impl.Msg{}, 3) != want {
				t.Errorf("%d: %+v", many, r)
			}
		}
		if fresh := impl.RepNew(11, 2); impl.RepOk(many, fresh) != want {
			t.Errorf("%d: %+v", many, fresh)
		}
		// A log that says nothing of agents goes with any number of them.
		if bare := (impl.Rep{Id: 11, Log: "3:p 7;"}); checkRep(t, many, bare, impl.Msg{}, 3) != (many >= 1 && many <= 3) {
			t.Errorf("%d: %+v", many, bare)
		}
	}
}

func TestP52WrongRecords(t *testing.T) {
	t.Parallel()
	for _, c := range []struct {
		ahead []string
		text  string
		want  bool
	}{
		{nil, "p 1", true}, {nil, "p 9999", true}, {nil, "p 10000", false}, {nil, "p 0", false}, {nil, "p -1", false}, {nil, "p", false}, {nil, "p ", false}, {nil, "p 01", false}, {nil, "p 1 ", false}, {nil, "p 1 0", false}, {nil, "p 1 -", false}, {nil, "p  1", false}, {nil, " p 1", false}, {nil, "P 1", false}, {nil, "p1", false}, {nil, "p +1", false}, {nil, "p 1,1", false}, {nil, "p 0 1", false}, {nil, "p 18446744073709551617", false},
		{[]string{"p 5"}, "p 5", false}, {[]string{"p 5"}, "p 4", false}, {[]string{"p 5"}, "p 6", true}, {[]string{"a 0 5 0,0"}, "p 5", false}, {[]string{"a 0 5 0,0"}, "p 6", true}, {[]string{"p 9999"}, "p 9999", false},
		{nil, "a 0 1 0,0", true}, {nil, "a 11 9999 -1,127", true}, {nil, "a 12 1 0,0", false}, {nil, "a -1 1 0,0", false}, {nil, "a 0 0 0,0", false}, {nil, "a 0 10000 0,0", false}, {nil, "a 0 1 0", false}, {nil, "a 0 1 0,0,0", false}, {nil, "a 0 1 -", false}, {nil, "a 0 1", false}, {nil, "a 0 1 ", false}, {nil, "a 0 1 0,", false}, {nil, "a 0 1 ,0", false}, {nil, "a 0 1 0,128", false}, {nil, "a 0 1 -2,0", false}, {nil, "a 0 1 0 0", false}, {nil, "a 0 1 00,0", false}, {nil, "a 00 1 0,0", false}, {nil, "a 0 01 0,0", false}, {nil, "a 0 1 0,0 ", false}, {nil, "a 0 1 -0,0", false}, {nil, "a 0:1:0,0", false}, {nil, "a  0 1 0,0", false}, {nil, "a", false},
		{[]string{"p 5"}, "a 0 5 0,0", true}, {[]string{"p 5"}, "a 0 4 0,0", false}, {[]string{"p 5"}, "a 0 6 0,0", true}, {[]string{"a 0 5 0,0"}, "a 0 5 1,1", true}, {[]string{"a 0 5 0,0"}, "a 1 4 1,1", false}, {[]string{"a 3 5 0,0"}, "a 1 5 1,1", true},
		{nil, "k 0 0,0", true}, {nil, "k 0 -1,127", true}, {nil, "k 1 0,0", false}, {nil, "k -1 0,0", false}, {nil, "k 0 0", false}, {nil, "k 0 0,0,0", false}, {nil, "k 0 -", false}, {nil, "k 0", false}, {nil, "k 0 128,0", false}, {nil, "k 0 -2,0", false}, {nil, "k 00 0,0", false}, {nil, "k 0 0,0 ", false}, {nil, "k 0 1 0,0", false}, {nil, "k", false}, {nil, "k 0 0 0,0", false},
		{[]string{"k 0 0,0"}, "k 0 0,0", false}, {[]string{"k 0 0,0"}, "k 1 0,0", true}, {[]string{"k 0 0,0"}, "k 2 0,0", false}, {[]string{"k 0 0,0"}, "p 1", true}, {[]string{"k 0 0,0", "p 9"}, "a 0 9 5,5", true},
		{nil, "i 0", false}, {nil, "c 0 0", false}, {nil, "0", false}, {nil, "b 0 1 0,0", false}, {nil, "-", false}, {nil, strings.Repeat("p", 60), false}, {nil, "a 0 1 0,0;", false},
	} {
		log := logText(append(slices.Clone(c.ahead), c.text)...)
		for _, tail := range []string{"", "3:p"} {
			r := impl.Rep{Id: 11, Log: log + tail}
			if ok := checkRep(t, 2, r, impl.Msg{}, 3); ok != c.want {
				t.Errorf("%q: %v", r.Log, ok)
			}
			r.Up, r.Got = true, []int{-1, -1}
			checkRep(t, 2, r, impl.Msg{}, 3)
		}
	}
	var records []string
	for inst := range impl.InstMax + 1 {
		r := impl.Rep{Id: 12, Log: logText(append(slices.Clone(records), fmt.Sprint("k ", inst, " 0"))...)}
		if checkRep(t, 1, r, impl.Msg{}, 3) != (inst < impl.InstMax) {
			t.Errorf("%d are known", inst+1)
		}
		records = append(records, fmt.Sprint("k ", inst, " 0"))
	}
	for size, want := range map[int]bool{5999: true, 6000: true, 6001: false} {
		log, _ := paddedLog("", impl.LogMax-size)
		if checkRep(t, 1, impl.Rep{Id: 12, Log: log}, impl.Msg{}, 3) != want || checkRep(t, 1, impl.Rep{Id: 12, Log: "3:p 1;" + strings.Repeat("\x00", size-6)}, impl.Msg{}, 3) != want {
			t.Errorf("%d bytes", size)
		}
	}
}

func TestRepAnswersAreNew(t *testing.T) {
	t.Parallel()
	dice := newDice(777)
	proposes := leader(t, 3, 12, "k 0 5,5,5", "a 0 3 1,1,1", "p 5")
	proposes.Best, proposes.Got = proposes.Acc, []int{1, 2, 3}
	told := proposes
	told.Best = []impl.Entry{{Inst: 1, Ballot: 2, Votes: []int{8, 8, 8}}}
	decides := leader(t, 3, 12, "k 0 5,5,5", "p 5", "a 1 5 1,2,3", "a 3 5 1,1,1")
	begins := repBy(t, 3, 12, "k 0 5,5,5", "a 0 3 1,1,1", "a 1 4 1,2,3")
	begins.Wait = 6
	list := []impl.Rep{proposes, told, decides, begins, impl.RepNew(12, 3), {Id: 12, Log: begins.Log + "3:"}}
	for range 60 {
		list = append(list, randomRep(dice, 3))
	}
	for _, r := range list {
		msgs := []impl.Msg{{Kind: 3, From: 10, To: r.Id, Ballot: r.Lead, List: []impl.Entry{{Inst: 1, Ballot: 4, Votes: []int{1, 2, 3}}}}, {Kind: 5, From: 10, To: r.Id, Ballot: 9999, Inst: 1, Votes: []int{1, 2, 3}}, {Kind: 9, From: 11, To: r.Id, Inst: len(r.Chosen), Votes: []int{1, 2, 3}}, {Kind: 6, From: 10, To: r.Id, Ballot: r.Lead, Inst: len(r.Chosen)}, {Kind: 2, From: 10, To: r.Id, Ballot: 9999}, {Kind: 1, From: 1, To: r.Id}, {Kind: 1, From: 1, To: r.Id, Inst: len(r.Chosen), Votes: []int{5}}}
		for _, m := range msgs {
			for name, answer := range map[string]func(r impl.Rep, m impl.Msg) (impl.Rep, []impl.Msg){
				"RepNew":  func(r impl.Rep, m impl.Msg) (impl.Rep, []impl.Msg) { return impl.RepNew(r.Id, 3), nil },
				"RepTick": func(r impl.Rep, m impl.Msg) (impl.Rep, []impl.Msg) { return impl.RepTick(3, r) },
				"RepHear": func(r impl.Rep, m impl.Msg) (impl.Rep, []impl.Msg) { return impl.RepHear(3, r, m) },
				"RepFall": func(r impl.Rep, m impl.Msg) (impl.Rep, []impl.Msg) { return impl.RepFall(3, r, m, 9), nil },
				"RepRise": func(r impl.Rep, m impl.Msg) (impl.Rep, []impl.Msg) { return impl.RepRise(3, r), nil },
			} {
				given, untouched := guardedRep(t, r)
				msg, msgUntouched := guardedMsg(t, m)
				want, wantTold := answer(given, msg)
				for _, list := range listsOf(want, wantTold) {
					first, firstTold := answer(given, msg)
					scribbled := listsOf(first, firstTold)[list.at]
					scribbled.fill()
					for i, other := range listsOf(first, firstTold) {
						if !strings.HasPrefix(other.name, scribbled.name) && other.text() != listsOf(want, wantTold)[i].text() {
							t.Fatalf("%s of %+v and %+v: %s shares with %s", name, r, m, other.name, scribbled.name)
						}
					}
				}
				untouched("an answer of " + name)
				msgUntouched("an answer of " + name)
				if again, againTold := answer(given, msg); !sameRep(again, want) || !sameMsgs(againTold, wantTold) {
					t.Fatalf("%s of %+v and %+v: an answer is shared", name, r, m)
				}
			}
		}
	}
}

// part is a list of an answer: where it is, how it is filled up, room behind its end included, and what it says.
type part struct {
	at   int
	name string
	fill func()
	text func() string
}

// listsOf are all lists of an answer; the name of one within another one begins with the name of that one.
func listsOf(r impl.Rep, told []impl.Msg) []part {
	var parts []part
	nums := func(name string, list []int) {
		parts = append(parts, part{len(parts), name, func() { fillUp(list, 99) }, func() string { return fmt.Sprint(list) }})
	}
	entries := func(name string, list []impl.Entry) {
		parts = append(parts, part{len(parts), name, func() { fillUp(list, impl.Entry{Inst: 77}) }, func() string {
			text := ""
			for _, e := range list {
				text += fmt.Sprint(e.Inst, ":", e.Ballot, " ")
			}
			return text
		}})
		for i := range list {
			// The votes are a list of their own: they are asked for though their entry is another one.
			nums(fmt.Sprint(name, ".", i, ";"), list[i].Votes)
		}
	}
	nums("Yes;", r.Yes)
	nums("Got;", r.Got)
	nums("Wrote;", r.Wrote)
	entries("Acc;", r.Acc)
	entries("Chosen;", r.Chosen)
	entries("Best;", r.Best)
	for i := range told {
		nums(fmt.Sprint("Votes", i, ";"), told[i].Votes)
		entries(fmt.Sprint("List", i, ";"), told[i].List)
	}
	return parts
}

// radio is three who decide, with messages between them in any order.
type radio struct {
	t      *testing.T
	dice   *rand.Rand
	many   int
	reps   []impl.Rep
	under  []impl.Msg
	chosen map[int]string
	fell   int
}

// asks holds each step against what it must be, and what is known against what was known of that command by anyone.
func (a *radio) asks(at int, m impl.Msg, next impl.Rep) {
	a.t.Helper()
	if a.dice.IntN(8) == 0 {
		checkRep(a.t, a.many, a.reps[at], m, a.dice.IntN(14))
	}
	a.reps[at] = next
	j, _ := judgeOf(a.many, next.Id, next.Log)
	for inst, e := range j.chosen {
		if votes, there := a.chosen[inst]; there && votes != numsText(e.Votes) {
			a.t.Fatalf("%d is decided as %s and as %v by %+v", inst, votes, e.Votes, a.reps)
		}
		a.chosen[inst] = numsText(e.Votes)
	}
}

// step lets anything happen.
func (a *radio) step() {
	at := a.dice.IntN(3)
	r := a.reps[at]
	roll := a.dice.IntN(40)
	switch {
	case !r.Up:
		if roll < 16 {
			a.asks(at, impl.Msg{}, impl.RepRise(a.many, r))
		}
	case roll == 0:
		a.fell++
		a.asks(at, impl.Msg{}, impl.RepFall(a.many, r, impl.Msg{}, a.dice.IntN(14)))
	case roll < 8:
		next, told := impl.RepTick(a.many, r)
		a.under = append(a.under, told...)
		a.asks(at, impl.Msg{}, next)
	case roll < 12:
		a.under = append(a.under, impl.Msg{Kind: impl.MsgReport, From: a.dice.IntN(a.many), To: r.Id, Inst: min(12, len(a.chosen)), Votes: []int{a.dice.IntN(4)}})
	default:
		a.brings(roll)
	}
}

// brings lets a message be heard: once, or to be heard again, or by one that falls in the midst of it; or loses it.
func (a *radio) brings(roll int) {
	if len(a.under) == 0 {
		return
	}
	which := a.dice.IntN(len(a.under))
	m := a.under[which]
	if roll != 12 {
		a.under = slices.Delete(a.under, which, which+1)
	}
	if m.To < 10 || roll == 13 || len(a.under) > 40 {
		return
	}
	at := m.To - 10
	if roll == 14 && a.reps[at].Up {
		a.fell++
		a.asks(at, m, impl.RepFall(a.many, a.reps[at], m, a.dice.IntN(20)))
		return
	}
	next, told := impl.RepHear(a.many, a.reps[at], m)
	a.under = append(a.under, told...)
	a.asks(at, m, next)
}

// Three who decide never know two different votes of one command, whatever is late, doubled or lost, and whoever falls.
func TestRepsAgree(t *testing.T) {
	t.Parallel()
	dice := newDice(62)
	decided, fell, leads := 0, 0, 0
	for range 150 {
		many := 1 + dice.IntN(3)
		a := &radio{t: t, dice: dice, many: many, chosen: map[int]string{}}
		for id := 10; id <= 12; id++ {
			a.reps = append(a.reps, impl.RepNew(id, many))
		}
		for range 400 {
			a.step()
		}
		decided += len(a.chosen)
		fell += a.fell
		for _, r := range a.reps {
			j, _ := judgeOf(many, r.Id, r.Log)
			leads = max(leads, j.promise)
		}
	}
	if decided < 300 || fell < 1000 || leads < 15 {
		t.Error(decided, fell, leads)
	}
}

// Whatever came ahead: as soon as all are up, and nothing is lost any more, all that agents tell of is decided, and all know it.
func TestRepsBringToAnEnd(t *testing.T) {
	t.Parallel()
	dice := newDice(66)
	for range 15 {
		many := 1 + dice.IntN(3)
		a := &radio{t: t, dice: dice, many: many, chosen: map[int]string{}}
		for id := 10; id <= 12; id++ {
			a.reps = append(a.reps, impl.RepNew(id, many))
		}
		for range 200 {
			a.step()
		}
		// Now all are up, and nothing is lost: each command that an agent tells of is decided.
		for at, r := range a.reps {
			a.asks(at, impl.Msg{}, impl.RepRise(many, r))
		}
		for range 150 {
			a.calm()
		}
		if len(a.chosen) != 12 {
			t.Fatalf("%d are decided: %+v", len(a.chosen), a.reps)
		}
		for _, r := range a.reps {
			if len(r.Chosen) != 12 {
				t.Fatalf("%+v", r)
			}
		}
	}
}

// calm lets all messages be heard, then all tick, agents telling of the next command.
func (a *radio) calm() {
	for len(a.under) > 0 {
		m := a.under[0]
		a.under = a.under[1:]
		if m.To >= 10 {
			next, told := impl.RepHear(a.many, a.reps[m.To-10], m)
			a.under = append(a.under, told...)
			a.asks(m.To-10, m, next)
		}
	}
	for at, r := range a.reps {
		for id := range a.many {
			a.under = append(a.under, impl.Msg{Kind: impl.MsgReport, From: id, To: r.Id, Inst: min(12, len(a.chosen)), Votes: []int{id}})
		}
		next, told := impl.RepTick(a.many, r)
		a.under = append(a.under, told...)
		a.asks(at, impl.Msg{}, next)
	}
}
