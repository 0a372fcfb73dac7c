package tests

import (
	"fmt"
	"hash/crc32"
	"math/rand/v2"
	"regexp"
	"slices"
	"strconv"
	"strings"
	"testing"

	"loop.example/fugleman/impl"
)

func TestWireLimits(t *testing.T) {
	kinds := []int{impl.MsgReport, impl.MsgAsk, impl.MsgPromise, impl.MsgNo, impl.MsgWrite, impl.MsgWrote, impl.MsgBeat, impl.MsgLack, impl.MsgChosen}
	if !slices.Equal(kinds, countFrom(1, 9)) {
		t.Error("kinds of messages", kinds)
	}
	if impl.PolicyAll != 1 || impl.PolicyAny != 2 || impl.PolicyMost != 3 {
		t.Error("ways to decide")
	}
	if impl.AgentMax != 3 || impl.RepMax != 3 || impl.RepBase != 10 || impl.BallotMax != 9999 || impl.MsgMax != 400 {
		t.Error("limits of messages")
	}
}

func sameEntry(a impl.Entry, b impl.Entry) bool {
	return a.Inst == b.Inst && a.Ballot == b.Ballot && slices.Equal(a.Votes, b.Votes)
}

func sameMsg(a impl.Msg, b impl.Msg) bool {
	return a.Kind == b.Kind && a.From == b.From && a.To == b.To && a.Ballot == b.Ballot && a.Inst == b.Inst && slices.Equal(a.Votes, b.Votes) && slices.EqualFunc(a.List, b.List, sameEntry)
}

func votesFit(votes []int) bool {
	for _, vote := range votes {
		if vote < -1 || vote > 127 {
			return false
		}
	}
	return len(votes) <= 3
}

// msgFits says whether a message is as the document asks.
func msgFits(m impl.Msg) bool {
	parties := []int{0, 1, 2, 10, 11, 12}
	if m.Kind < 1 || m.Kind > 9 || !slices.Contains(parties, m.From) || !slices.Contains(parties, m.To) {
		return false
	}
	if m.Ballot < 0 || m.Ballot > 9999 || m.Inst < 0 || m.Inst > 12 || !votesFit(m.Votes) || len(m.List) > 12 {
		return false
	}
	ahead := -1
	for _, e := range m.List {
		if e.Inst <= ahead || e.Inst > 11 || e.Ballot < 1 || e.Ballot > 9999 || len(e.Votes) == 0 || !votesFit(e.Votes) {
			return false
		}
		ahead = e.Inst
	}
	return true
}

func numsText(nums []int) string {
	var parts []string
	for _, num := range nums {
		parts = append(parts, strconv.Itoa(num))
	}
	return strings.Join(parts, ",")
}

// headText is how all of a message but its sum is written, be it ok or not.
func headText(m impl.Msg) string {
	var parts []string
	for _, e := range m.List {
		parts = append(parts, fmt.Sprintf("%d:%d:%s", e.Inst, e.Ballot, numsText(e.Votes)))
	}
	votes, list := numsText(m.Votes), strings.Join(parts, ";")
	if len(m.Votes) == 0 {
		votes = "-"
	}
	if len(m.List) == 0 {
		list = "-"
	}
	return fmt.Sprintf("%d %d %d %d %d %s %s", m.Kind, m.From, m.To, m.Ballot, m.Inst, votes, list)
}

// sealed is a text with the sum that is right behind it.
func sealed(head string) string {
	return fmt.Sprintf("%s %d", head, crc32.ChecksumIEEE([]byte(head)))
}

// msgShape is how messages are written, as far as a regular expression can tell.
var msgShape = func() *regexp.Regexp {
	num := `(?:0|-?[1-9][0-9]{0,17})`
	nums := num + `(?:,` + num + `)*`
	entry := num + `:` + num + `:` + nums
	return regexp.MustCompile(`^(` + num + `) (` + num + `) (` + num + `) (` + num + `) (` + num + `) (-|` + nums + `) (-|` + entry + `(?:;` + entry + `)*) (` + num + `)$`)
}()

func mustNum(s string) int {
	num, err := strconv.Atoi(s)
	if err != nil {
		panic(err)
	}
	return num
}

func mustNums(s string) []int {
	var nums []int
	for _, part := range strings.Split(s, ",") {
		nums = append(nums, mustNum(part))
	}
	return nums
}

// msgMeant is the message that a text must be read as, and whether it is one.
func msgMeant(s string) (impl.Msg, bool) {
	found := msgShape.FindStringSubmatch(s)
	if found == nil || len(s) > 400 {
		return impl.Msg{}, false
	}
	m := impl.Msg{Kind: mustNum(found[1]), From: mustNum(found[2]), To: mustNum(found[3]), Ballot: mustNum(found[4]), Inst: mustNum(found[5])}
	if found[6] != "-" {
		m.Votes = mustNums(found[6])
	}
	if found[7] != "-" {
		for _, part := range strings.Split(found[7], ";") {
			parts := strings.Split(part, ":")
			m.List = append(m.List, impl.Entry{Inst: mustNum(parts[0]), Ballot: mustNum(parts[1]), Votes: mustNums(parts[2])})
		}
	}
	head := s[:strings.LastIndex(s, " ")]
	if !msgFits(m) || s != sealed(head) {
		return impl.Msg{}, false
	}
	return m, true
}

// guardedEntries is a copy of a list with room behind its end, and behind that of each of its votes, and a check that nothing was written there.
func guardedEntries(t *testing.T, list []impl.Entry) ([]impl.Entry, func(what string)) {
	t.Helper()
	var checks []func(what string)
	room := make([]impl.Entry, len(list)+3)
	for i := range room {
		room[i] = impl.Entry{Inst: 77, Ballot: 77, Votes: []int{77}}
		if i < len(list) {
			votes, untouched := guarded(t, list[i].Votes, 99)
			room[i] = impl.Entry{Inst: list[i].Inst, Ballot: list[i].Ballot, Votes: votes}
			checks = append(checks, untouched)
		}
	}
	kept := slices.Clone(room)
	return room[:len(list)], func(what string) {
		t.Helper()
		for _, check := range checks {
			check(what)
		}
		if !slices.EqualFunc(room, kept, sameEntry) {
			t.Errorf("%s wrote into an argument: %v, it was %v", what, room, kept)
		}
	}
}

// guardedMsg is a copy of a message with room behind its lists, and a check that nothing was written there.
func guardedMsg(t *testing.T, m impl.Msg) (impl.Msg, func(what string)) {
	t.Helper()
	votes, votesUntouched := guarded(t, m.Votes, 99)
	list, listUntouched := guardedEntries(t, m.List)
	m.Votes, m.List = votes, list
	return m, func(what string) {
		t.Helper()
		votesUntouched(what)
		listUntouched(what)
	}
}

// checkPut asks for all that is done with a message (P37), and says whether it is ok.
func checkPut(t *testing.T, m impl.Msg) bool {
	t.Helper()
	given, untouched := guardedMsg(t, m)
	ok, s := impl.MsgOk(given), impl.MsgPut(given)
	untouched("MsgPut")
	if ok != msgFits(m) {
		t.Fatalf("%+v: %v", m, ok)
	}
	text := sealed(headText(m))
	if !ok {
		if s != "" {
			t.Fatalf("%+v is not ok: %q", m, s)
		}
		// As nothing writes it, nothing reads it.
		checkGet(t, text)
		return false
	}
	if s != text || len(s) > impl.MsgMax {
		t.Fatalf("%+v: %q, not %q", m, s, text)
	}
	back, ok := impl.MsgGet(s)
	if !ok || !sameMsg(back, m) {
		t.Fatalf("%+v: read back %+v %v", m, back, ok)
	}
	return true
}

// checkGet holds what a text is read as against what it must be (P38), and says whether it is a message.
func checkGet(t *testing.T, s string) bool {
	t.Helper()
	m, ok := impl.MsgGet(s)
	want, wantOk := msgMeant(s)
	if ok != wantOk || !sameMsg(m, want) {
		t.Fatalf("%q: %+v %v, not %+v %v", s, m, ok, want, wantOk)
	}
	if ok && impl.MsgPut(m) != s {
		t.Fatalf("%q: written as %q", s, impl.MsgPut(m))
	}
	return ok
}

// greatest is the longest message that is ok but for its sum, the length of which hangs on the ballot.
func greatest(ballot int) impl.Msg {
	m := impl.Msg{Kind: impl.MsgPromise, From: 10, To: 12, Ballot: ballot, Inst: impl.InstMax, Votes: []int{127, 126, 100}}
	for inst := range impl.InstMax {
		m.List = append(m.List, impl.Entry{Inst: inst, Ballot: impl.BallotMax - inst, Votes: []int{100 + inst, 127, 127 - inst}})
	}
	return m
}

// goodMsgs are messages that are ok, of all kinds, with and without votes and lists.
func goodMsgs() []impl.Msg {
	lists := [][]impl.Entry{nil, {{Inst: 0, Ballot: 1, Votes: []int{0}}}, {{Inst: 11, Ballot: 9999, Votes: []int{-1, 127, 0}}}, {{Inst: 0, Ballot: 4, Votes: []int{1}}, {Inst: 3, Ballot: 4, Votes: []int{-1, 127}}}}
	var all []impl.Msg
	for kind := 1; kind <= 9; kind++ {
		for i, votes := range [][]int{nil, {0}, {-1}, {127}, {-1, -1}, {0, 0, 0}, {-1, -1, -1}, {127, 126, 100}} {
			for j, list := range lists {
				all = append(all, impl.Msg{Kind: kind, From: []int{0, 1, 2, 10, 11, 12}[(kind+i)%6], To: []int{12, 11, 10, 2, 1, 0}[(i+j)%6], Ballot: []int{0, 1, 9999, 10, 909}[(i+j)%5], Inst: (kind + i + j) % 13, Votes: votes, List: list})
			}
		}
	}
	for ballot := 9990; ballot <= 9999; ballot++ {
		all = append(all, greatest(ballot))
	}
	return all
}

func randomVotes(dice *rand.Rand, least int) []int {
	var votes []int
	for range least + dice.IntN(4-least) {
		votes = append(votes, []int{-1, 0, 1, 9, 10, 99, 100, 123, 127, dice.IntN(128)}[dice.IntN(10)])
	}
	return votes
}

func randomMsg(dice *rand.Rand) impl.Msg {
	party := []int{0, 1, 2, 10, 11, 12}
	m := impl.Msg{Kind: 1 + dice.IntN(9), From: party[dice.IntN(6)], To: party[dice.IntN(6)], Ballot: dice.IntN(10000), Inst: dice.IntN(13), Votes: randomVotes(dice, 0)}
	often := dice.IntN(5)
	for inst := range 12 {
		if dice.IntN(4) < often {
			m.List = append(m.List, impl.Entry{Inst: inst, Ballot: 1 + dice.IntN(9999), Votes: randomVotes(dice, 1)})
		}
	}
	return m
}

func TestP36Known(t *testing.T) {
	for s, want := range map[string]int{"123456789": 3421780262, "": 0, "a": 3904355907, "abc": 891568578, "The quick brown fox jumps over the lazy dog": 1095738169, "\x00": 3523407757, "\xff": 4278190080, "\x00\x00\x00\x00": 558161692, "\xff\xff\xff\xff": 4294967295} {
		if n := impl.Crc(s); n != want {
			t.Errorf("%q: %d, not %d", s, n, want)
		}
	}
}

func TestP36AnyTexts(t *testing.T) {
	check := func(s string) {
		t.Helper()
		n := impl.Crc(s)
		if n < 0 || n > 4294967295 || n != int(crc32.ChecksumIEEE([]byte(s))) {
			t.Fatalf("%q: %d", s, n)
		}
	}
	check(allBytes())
	for c := range 256 {
		check(string([]byte{byte(c)}))
		check(strings.Repeat(string([]byte{byte(c)}), c))
		check("a" + string([]byte{byte(c)}) + "\n")
	}
	dice := newDice(36)
	for range 2000 {
		check(randomText(dice, allBytes(), 80))
	}
	check(strings.Repeat(allBytes(), 1000))
}

func TestP36AnotherByte(t *testing.T) {
	for _, s := range []string{"1", "123456789", "3 10 12 7 1 0,-1 0:4:1;3:5:-1,127", "\x00\x00\x00\x00\x00\x00\x00\x00\x00", "a\nb\tc\xff\x80\x7f", strings.Repeat("~", 130)} {
		sum := impl.Crc(s)
		for at := range len(s) {
			seen := map[int]int{}
			for c := range 256 {
				other := impl.Crc(s[:at] + string([]byte{byte(c)}) + s[at+1:])
				if (other == sum) != (byte(c) == s[at]) {
					t.Fatalf("%q with %d at %d: %d", s, c, at, other)
				}
				seen[other] = 1
			}
			if len(seen) != 256 {
				t.Fatalf("%q at %d: %d sums of 256 bytes", s, at, len(seen))
			}
		}
	}
}

func TestP37Texts(t *testing.T) {
	for head, m := range map[string]impl.Msg{
		"1 0 0 0 0 - -":                        {Kind: 1},
		"1 2 10 0 12 127 -":                    {Kind: impl.MsgReport, From: 2, To: 10, Inst: 12, Votes: []int{127}},
		"2 10 11 9999 0 - -":                   {Kind: impl.MsgAsk, From: 10, To: 11, Ballot: 9999},
		"3 12 10 7 0 - 0:4:1;11:9999:-1,0,127": {Kind: impl.MsgPromise, From: 12, To: 10, Ballot: 7, List: []impl.Entry{{Inst: 0, Ballot: 4, Votes: []int{1}}, {Inst: 11, Ballot: 9999, Votes: []int{-1, 0, 127}}}},
		"4 11 12 10 0 - -":                     {Kind: impl.MsgNo, From: 11, To: 12, Ballot: 10},
		"5 11 12 100 1 -1,-1,-1 -":             {Kind: impl.MsgWrite, From: 11, To: 12, Ballot: 100, Inst: 1, Votes: []int{-1, -1, -1}},
		"6 11 12 1 1 - -":                      {Kind: impl.MsgWrote, From: 11, To: 12, Ballot: 1, Inst: 1},
		"7 12 12 1 10 - -":                     {Kind: impl.MsgBeat, From: 12, To: 12, Ballot: 1, Inst: 10},
		"8 1 2 0 11 - -":                       {Kind: impl.MsgLack, From: 1, To: 2, Inst: 11},
		"9 10 0 0 3 0,-1,126 -":                {Kind: impl.MsgChosen, From: 10, To: 0, Inst: 3, Votes: []int{0, -1, 126}},
		"9 10 0 0 3 -1 0:1:-1":                 {Kind: impl.MsgChosen, From: 10, To: 0, Inst: 3, Votes: []int{-1}, List: []impl.Entry{{Inst: 0, Ballot: 1, Votes: []int{-1}}}},
	} {
		if s := impl.MsgPut(m); s != sealed(head) {
			t.Errorf("%+v: %q, not %q", m, s, sealed(head))
		}
		if !checkPut(t, m) || !checkGet(t, sealed(head)) {
			t.Errorf("%q is not ok", head)
		}
	}
	// Empty lists are none, whatever they are made of.
	if s := impl.MsgPut(impl.Msg{Kind: 9, Votes: []int{}, List: []impl.Entry{}}); s != sealed("9 0 0 0 0 - -") {
		t.Error(s)
	}
}

func TestP37ReadBack(t *testing.T) {
	for _, m := range goodMsgs() {
		if !checkPut(t, m) {
			t.Fatalf("%+v", m)
		}
	}
	party := []int{0, 1, 2, 10, 11, 12}
	for _, from := range party {
		for _, to := range party {
			for kind := 1; kind <= 9; kind++ {
				if !checkPut(t, impl.Msg{Kind: kind, From: from, To: to, Votes: []int{kind}}) {
					t.Fatal(kind, from, to)
				}
			}
		}
	}
	for num := range 10000 {
		m := impl.Msg{Kind: impl.MsgAsk, From: 10, To: 11, Ballot: num, List: []impl.Entry{{Inst: num % 12, Ballot: max(num, 1), Votes: []int{num%129 - 1}}}}
		if !checkPut(t, m) {
			t.Fatal(num)
		}
	}
	dice := newDice(37)
	for range 5000 {
		if m := randomMsg(dice); !checkPut(t, m) {
			t.Fatalf("%+v", m)
		}
	}
}

func TestP37Greatest(t *testing.T) {
	longest := 0
	for ballot := 1000; ballot <= 9999; ballot += 7 {
		m := greatest(ballot)
		if !checkPut(t, m) {
			t.Fatal(ballot)
		}
		longest = max(longest, len(impl.MsgPut(m)))
	}
	// All numbers as long as they may be, votes 11 bytes, entries 12 times 18 and 2, with 11 signs between.
	if want := 1 + 2 + 2 + 4 + 2 + 11 + (12*18 + 2 + 11) + 10 + 7; longest != want || longest > impl.MsgMax {
		t.Errorf("%d, not %d", longest, want)
	}
}

// changedMsg is a message with something changed.
func changedMsg(m impl.Msg, change func(m *impl.Msg)) impl.Msg {
	m.Votes, m.List = slices.Clone(m.Votes), slices.Clone(m.List)
	for i := range m.List {
		m.List[i].Votes = slices.Clone(m.List[i].Votes)
	}
	change(&m)
	return m
}

func TestMsgOkNumbers(t *testing.T) {
	base := impl.Msg{Kind: 3, From: 10, To: 12, Ballot: 7, Inst: 1, Votes: []int{0, -1, 5}, List: []impl.Entry{{Inst: 0, Ballot: 4, Votes: []int{1}}, {Inst: 3, Ballot: 5, Votes: []int{-1, 127, 0}}}}
	nums := append(countFrom(-20, 160), 9997, 9998, 9999, 10000, 10001, 1<<32, 1<<32+1, 1<<62, -1<<62, -1<<63, 1<<63-1)
	for _, c := range []struct {
		part   string
		fits   func(n int) bool
		change func(m *impl.Msg, n int)
	}{
		{"Kind", func(n int) bool { return n >= 1 && n <= 9 }, func(m *impl.Msg, n int) { m.Kind = n }},
		{"From", func(n int) bool { return n >= 0 && n <= 2 || n >= 10 && n <= 12 }, func(m *impl.Msg, n int) { m.From = n }},
		{"To", func(n int) bool { return n >= 0 && n <= 2 || n >= 10 && n <= 12 }, func(m *impl.Msg, n int) { m.To = n }},
		{"Ballot", func(n int) bool { return n >= 0 && n <= 9999 }, func(m *impl.Msg, n int) { m.Ballot = n }},
		{"Inst", func(n int) bool { return n >= 0 && n <= 12 }, func(m *impl.Msg, n int) { m.Inst = n }},
		{"the first vote", func(n int) bool { return n >= -1 && n <= 127 }, func(m *impl.Msg, n int) { m.Votes[0] = n }},
		{"the second vote", func(n int) bool { return n >= -1 && n <= 127 }, func(m *impl.Msg, n int) { m.Votes[1] = n }},
		{"the third vote", func(n int) bool { return n >= -1 && n <= 127 }, func(m *impl.Msg, n int) { m.Votes[2] = n }},
		{"the first Inst", func(n int) bool { return n >= 0 && n <= 2 }, func(m *impl.Msg, n int) { m.List[0].Inst = n }},
		{"the second Inst", func(n int) bool { return n >= 1 && n <= 11 }, func(m *impl.Msg, n int) { m.List[1].Inst = n }},
		{"the first Ballot", func(n int) bool { return n >= 1 && n <= 9999 }, func(m *impl.Msg, n int) { m.List[0].Ballot = n }},
		{"the second Ballot", func(n int) bool { return n >= 1 && n <= 9999 }, func(m *impl.Msg, n int) { m.List[1].Ballot = n }},
		{"a vote alone", func(n int) bool { return n >= -1 && n <= 127 }, func(m *impl.Msg, n int) { m.List[0].Votes[0] = n }},
		{"the last vote", func(n int) bool { return n >= -1 && n <= 127 }, func(m *impl.Msg, n int) { m.List[1].Votes[2] = n }},
	} {
		for _, num := range nums {
			m := changedMsg(base, func(m *impl.Msg) { c.change(m, num) })
			if ok := checkPut(t, m); ok != c.fits(num) {
				t.Errorf("%s is %d: %v", c.part, num, ok)
			}
		}
	}
}

func TestMsgOkLists(t *testing.T) {
	for many := range 7 {
		votes := make([]int, many)
		if ok := checkPut(t, impl.Msg{Kind: 5, From: 10, To: 11, Votes: votes}); ok != (many <= impl.AgentMax) {
			t.Errorf("%d votes: %v", many, ok)
		}
		list := []impl.Entry{{Inst: 1, Ballot: 1, Votes: []int{5}}, {Inst: 2, Ballot: 1, Votes: votes}}
		if ok := checkPut(t, impl.Msg{Kind: 5, From: 10, To: 11, List: list}); ok != (many >= 1 && many <= impl.AgentMax) {
			t.Errorf("an entry of %d votes: %v", many, ok)
		}
	}
	for many := range 20 {
		var ascending, alike, falling []impl.Entry
		for inst := range many {
			e := impl.Entry{Inst: inst, Ballot: 3, Votes: []int{0, -1}}
			ascending = append(ascending, e)
			falling = append([]impl.Entry{e}, falling...)
			e.Inst = min(inst, 11)
			alike = append(alike, e)
		}
		for name, list := range map[string][]impl.Entry{"ascending": ascending, "alike at the end": alike} {
			if ok := checkPut(t, impl.Msg{Kind: 3, From: 10, To: 11, List: list}); ok != (many <= impl.InstMax) {
				t.Errorf("%d entries, %s: %v", many, name, ok)
			}
		}
		if ok := checkPut(t, impl.Msg{Kind: 3, From: 10, To: 11, List: falling}); ok != (many <= 1) {
			t.Errorf("%d entries, falling: %v", many, ok)
		}
	}
	entry := func(inst int) impl.Entry { return impl.Entry{Inst: inst, Ballot: 1, Votes: []int{0}} }
	for _, list := range [][]impl.Entry{{entry(1), entry(1)}, {entry(3), entry(0)}, {entry(0), entry(2), entry(1)}, {entry(0), entry(1), entry(0)}, {entry(0), entry(11), entry(11)}, {{}}, {entry(0), {}}, {{Inst: 0, Ballot: 1}}, {{Inst: 0, Ballot: 1, Votes: []int{}}}, make([]impl.Entry, 1000)} {
		if checkPut(t, impl.Msg{Kind: 3, From: 10, To: 11, List: list}) {
			t.Errorf("%+v", list)
		}
	}
	for _, m := range []impl.Msg{{}, {Kind: 1, From: 3}, {Kind: 1, To: 9}, {Kind: 1, Votes: make([]int, 100000)}} {
		if checkPut(t, m) {
			t.Errorf("%+v", m)
		}
	}
}

func TestP38NotWrittenSo(t *testing.T) {
	for _, head := range []string{"3 10 12 7 1 0,-1 0:4:1;3:5:-1,127", "3 10 12 7 1 0,-1 -", "3 10 12 7 1 - 0:4:1", "3 10 12 7 1 - -", "3 0 12 7 0 - -", "3 10 0 0 1 - -"} {
		if !checkGet(t, sealed(head)) {
			t.Fatal(head)
		}
	}
	for _, head := range []string{
		// Noughts, signs and figures.
		"03 10 12 7 1 0,-1 -", "3 010 12 7 1 0,-1 -", "3 10 012 7 1 0,-1 -", "3 10 12 07 1 0,-1 -", "3 10 12 7 01 0,-1 -", "3 10 12 7 1 00,-1 -", "3 10 12 7 1 0,-01 -", "3 10 12 7 1 0,01 -",
		"3 10 12 7 1 - 00:4:1", "3 10 12 7 1 - 0:04:1", "3 10 12 7 1 - 0:4:01", "3 10 12 7 1 - 0:4:-01", "3 10 12 00 1 - -", "3 00 12 7 1 - -",
		"3 -0 12 7 1 - -", "3 10 -0 7 1 - -", "3 10 12 -0 1 - -", "3 10 12 7 -0 - -", "3 10 12 7 1 -0 -", "3 10 12 7 1 0,-0 -", "3 10 12 7 1 - -0:4:1", "3 10 12 7 1 - 0:4:-0",
		"+3 10 12 7 1 - -", "3 +10 12 7 1 - -", "3 10 12 +7 1 - -", "3 10 12 7 +1 - -", "3 10 12 7 1 +0 -", "3 10 12 7 1 - +0:4:1", "3 10 12 7 1 - 0:+4:1", "3 10 12 7 1 - 0:4:+1", "3 10 12 7 1 0,+1 -",
		"3 10 12 --7 1 - -", "3 10 12 7 1 --1 -", "3 10 12 7 1 -1- -", "3 10 12 7 1 1- -", "3 10 12 0x7 1 - -", "3 10 12 1_0 1 - -", "3 10 12 7.0 1 - -", "3 10 12 1e1 1 - -", "x 10 12 7 1 - -", "3 10 12 ７ 1 - -",
		// Numbers that are past what a number holds, or wrap round to one that is ok.
		"3 10 12 18446744073709551623 1 - -", "3 10 12 4294967303 1 - -", "18446744073709551619 10 12 7 1 - -", "3 10 12 7 1 18446744073709551615 -", "3 10 12 7 1 - 0:18446744073709551617:1", "3 10 12 99999999999999999999999999 1 - -",
		// Blanks.
		" 3 10 12 7 1 - -", "3  10 12 7 1 - -", "3 10 12 7 1  - -", "3 10 12 7 1 -  -", "3 10 12 7 1 - - ", "310 12 7 1 - -", "3 1012 7 1 - -", "3 10 127 1 - -", "3 10 12 71 - -", "3 10 12 7 1- -", "3 10 12 7 1 --", "3 10 12 7 1 0, -1 -", "3 10 12 7 1 0 ,-1 -", "3 10 12 7 1 - 0: 4:1", "3 10 12 7 1 - 0:4 :1", "3 10 12 7 1 - 0:4:1; 1:4:1", "3 10 12 7 1 - 0:4:1 ;1:4:1",
		"3\t10 12 7 1 - -", "3 10 12 7 1 -\n-", "3\x0010 12 7 1 - -", "3,10,12,7,1,-,-", "3 10 12 7 1 - -\n", "\n3 10 12 7 1 - -",
		// Nothing where `-` stands, `-` where something stands.
		"3 10 12 7 1  -", "3 10 12 7 1 - ", "3 10 12 7 1 -,0 -", "3 10 12 7 1 0,- -", "3 10 12 7 1 -,- -", "3 10 12 7 1 - -;0:4:1", "3 10 12 7 1 - 0:4:1;-", "3 10 12 7 1 - 0:4:-", "3 10 12 7 1 - 0:-:1", "3 10 12 7 1 - -:4:1", "3 10 12 7 - - -", "3 10 12 - 1 - -", "3 10 - 7 1 - -", "3 - 12 7 1 - -", "- 10 12 7 1 - -", "3 10 12 7 1 -- -", "3 10 12 7 1 - --", "3 10 12 7 1 0- -", "3 10 12 7 1 - -0",
		// A `,`, `;` or `:` too many, or missing.
		"3 10 12 7 1 0,,1 -", "3 10 12 7 1 ,0 -", "3 10 12 7 1 0, -", "3 10 12 7 1 , -", "3 10 12 7 1 0;1 -", "3 10 12 7 1 0:1 -",
		"3 10 12 7 1 - 0:4:1;;1:4:1", "3 10 12 7 1 - ;0:4:1", "3 10 12 7 1 - 0:4:1;", "3 10 12 7 1 - ;", "3 10 12 7 1 - 0:4:1,1:4:1", "3 10 12 7 1 - 0:4:1,", "3 10 12 7 1 - 0:4:,1", "3 10 12 7 1 - 0:4:1,,2", "3 10 12 7 1 - 0:4", "3 10 12 7 1 - 0:4:", "3 10 12 7 1 - 0::1", "3 10 12 7 1 - :4:1", "3 10 12 7 1 - 0:4:1:2", "3 10 12 7 1 - 0::4:1", "3 10 12 7 1 - 0:4::1", "3 10 12 7 1 - 0", "3 10 12 7 1 - :", "3 10 12 7 1 - 0:41", "3 10 12 7 1 - 04:1", "3 10 12 7 1 - 0;4;1", "3 10 12 7 1 - 0,4,1",
		// What is not ok though it is written so.
		"0 10 12 7 1 - -", "10 10 12 7 1 - -", "3 3 12 7 1 - -", "3 9 12 7 1 - -", "3 13 12 7 1 - -", "3 10 3 7 1 - -", "3 10 13 7 1 - -", "3 10 -1 7 1 - -", "3 10 12 -1 1 - -", "3 10 12 10000 1 - -", "3 10 12 7 13 - -", "3 10 12 7 -1 - -", "3 10 12 7 1 -2 -", "3 10 12 7 1 128 -", "3 10 12 7 1 0,0,0,0 -", "3 10 12 7 1 - 12:4:1", "3 10 12 7 1 - -1:4:1", "3 10 12 7 1 - 0:0:1", "3 10 12 7 1 - 0:10000:1", "3 10 12 7 1 - 0:4:128", "3 10 12 7 1 - 0:4:-2", "3 10 12 7 1 - 0:4:0,0,0,0", "3 10 12 7 1 - 0:4:1;0:4:1", "3 10 12 7 1 - 3:4:1;0:4:1", "3 10 12 7 1 - 0:4:1;1:4:1;1:5:1",
		// Too few, too many.
		"", " ", "-", "3", "3 10 12 7 1", "3 10 12 7 1 -", "3 10 12 7 1 - - -", "3 10 12 7 1 - - 0", "3 10 12 7 1 0 0 -", "3 10 12 7 1 0,-1 0:4:1 3:5:-1,127",
	} {
		if checkGet(t, sealed(head)) {
			t.Errorf("%q is a message", head)
		}
	}
}

func TestP38Sums(t *testing.T) {
	for _, m := range []impl.Msg{{Kind: 1}, {Kind: 3, From: 10, To: 12, Ballot: 7, Inst: 1, Votes: []int{0, -1}, List: []impl.Entry{{Inst: 3, Ballot: 5, Votes: []int{-1, 127}}}}, greatest(9999)} {
		s := impl.MsgPut(m)
		at := strings.LastIndex(s, " ")
		head, sum := s[:at], s[at+1:]
		num := mustNum(sum)
		for _, other := range []string{"", "0", "-", "-" + sum, "+" + sum, "0" + sum, "00" + sum, " " + sum, sum + " ", sum + "\n", sum + "0", sum + ",", sum + " 0", sum + " " + sum, sum[1:], sum[:len(sum)-1], strconv.Itoa(num + 1), strconv.Itoa(num - 1), strconv.Itoa(num + 1<<32), strconv.Itoa(num - 1<<32), strconv.FormatInt(int64(num), 16), "0x" + strconv.FormatInt(int64(num), 16), strconv.Itoa(4294967295 - num), "4294967295", "18446744073709551616", sum + "\x00", "\x00" + sum, strconv.Itoa(impl.Crc(head + " "))} {
			if checkGet(t, head+" "+other) {
				t.Errorf("%q: a message with %q", s, other)
			}
		}
		for _, other := range []string{head + sum, head + "  " + sum, head + "\t" + sum, s + " ", " " + s, s + s, s + "\n" + s, head, head + " "} {
			if checkGet(t, other) {
				t.Errorf("%q is a message", other)
			}
		}
	}
}

func isHeard(s string) bool {
	_, ok := impl.MsgGet(s)
	return ok
}

func TestP38SpoiltTexts(t *testing.T) {
	t.Parallel()
	dice := newDice(38)
	fine, wrong := 0, 0
	for range 60000 {
		head := headText(randomMsg(dice))
		if dice.IntN(2) == 0 {
			head = headText(impl.Msg{Kind: 1 + dice.IntN(9), From: 10, To: dice.IntN(3), Ballot: dice.IntN(30), Inst: dice.IntN(12), Votes: randomVotes(dice, 0)})
		}
		for range 1 + dice.IntN(2) {
			head = spoil(dice, head, "0123456789-,:; ")
		}
		if checkGet(t, sealed(head)) {
			fine++
		} else {
			wrong++
		}
	}
	if fine < 6000 || wrong < 6000 {
		t.Error(fine, wrong)
	}
	for range 3000 {
		checkGet(t, sealed(randomText(dice, "0123- ,:;", 30)))
		checkGet(t, randomText(dice, allBytes(), 50))
	}
}

// Texts as long as may be, and one byte more, are no messages, as none is so long.
func TestP38Long(t *testing.T) {
	for _, size := range []int{impl.MsgMax - 1, impl.MsgMax, impl.MsgMax + 1, 1000, 100000} {
		for _, fill := range []string{"0", " ", "9", "-", "1", "0:1:1;", "1,"} {
			for _, around := range []string{"3 10 12 @7 1 - -", "@3 10 12 7 1 - -", "3 10 12 7 1 - -@", "3 10 12 7 1 @ -", "3 10 12 7 1 - @"} {
				tail := 1 + 10
				head := strings.Replace(around, "@", strings.Repeat(fill, (size-len(around)-tail)/len(fill)+2), 1)
				for cut := range 13 {
					s := sealed(head[:max(0, len(head)-cut)])
					if checkGet(t, s) {
						t.Errorf("%q is a message", s)
					}
				}
			}
		}
	}
}

// checkFragile asks that a message is not heard with another byte in one place, nor without its end (P39).
func checkFragile(t *testing.T, m impl.Msg) {
	t.Helper()
	s := impl.MsgPut(m)
	text := []byte(s)
	for at := range text {
		for c := range 256 {
			if byte(c) == s[at] {
				continue
			}
			text[at] = byte(c)
			if back, ok := impl.MsgGet(string(text)); ok || !sameMsg(back, impl.Msg{}) {
				t.Fatalf("%q is heard as %+v: %v", text, back, ok)
			}
		}
		text[at] = s[at]
		if back, ok := impl.MsgGet(s[:at]); ok || !sameMsg(back, impl.Msg{}) {
			t.Fatalf("%q is heard as %+v: %v", s[:at], back, ok)
		}
	}
	if back, ok := impl.MsgGet(string(text)); !ok || !sameMsg(back, m) {
		t.Fatalf("%q is heard as %+v: %v", text, back, ok)
	}
}

func TestP39AnotherByte(t *testing.T) {
	t.Parallel()
	for kind := 1; kind <= 9; kind++ {
		checkFragile(t, impl.Msg{Kind: kind, From: 10, To: 2, Ballot: 7, Inst: 3, Votes: []int{0, -1}})
	}
	checkFragile(t, impl.Msg{Kind: 1})
	checkFragile(t, impl.Msg{Kind: 3, From: 10, To: 12, Ballot: 7, Inst: 1, List: []impl.Entry{{Inst: 0, Ballot: 4, Votes: []int{1}}, {Inst: 3, Ballot: 5, Votes: []int{-1, 127}}}})
	checkFragile(t, greatest(9999))
	dice := newDice(39)
	for range 25 {
		checkFragile(t, randomMsg(dice))
	}
	// Of many more each place, by one byte each.
	for range 500 {
		s := impl.MsgPut(randomMsg(dice))
		for at := range len(s) {
			other := s[:at] + string([]byte{s[at] ^ byte(1+dice.IntN(255))}) + s[at+1:]
			if isHeard(other) || isHeard(s[:at]) || isHeard(s[:at]+s[at+1:]) {
				t.Fatalf("%q, spoilt at %d", s, at)
			}
		}
	}
}

// decidedBy is what must be decided of votes.
func decidedBy(policy int, votes []int) int {
	if len(votes) == 0 || !votesFit(votes) || policy < 1 || policy > 3 {
		return -1
	}
	ends := slices.Sorted(slices.Values(votes))
	if policy == impl.PolicyMost {
		// What more than half of them are stands in the midst of them.
		middle := ends[len(ends)/2]
		many := 0
		for _, vote := range votes {
			if vote == middle {
				many++
			}
		}
		if middle >= 0 && many > len(votes)-many {
			return middle
		}
		return 123
	}
	for i, end := range ends {
		if end == -1 {
			ends[i] = 123
		}
	}
	slices.Sort(ends)
	if policy == impl.PolicyAll {
		return ends[len(ends)-1]
	}
	return ends[0]
}

// checkPolicy holds what is decided against what must be, and against the promise (P40).
func checkPolicy(t *testing.T, votes ...int) {
	t.Helper()
	noughts := 0
	for _, vote := range votes {
		if vote == 0 {
			noughts++
		}
	}
	for policy, isFine := range map[int]bool{impl.PolicyAll: noughts == len(votes), impl.PolicyAny: noughts > 0, impl.PolicyMost: 2*noughts > len(votes)} {
		n := impl.Policy(policy, votes)
		if n != decidedBy(policy, votes) || n < 0 || n > impl.StatusMax || (n == 0) != isFine {
			t.Fatalf("%v by %d: %d, not %d", votes, policy, n, decidedBy(policy, votes))
		}
		switch len(votes) {
		case 1:
			if want := map[bool]int{true: impl.StatusLost, false: votes[0]}[votes[0] == -1]; n != want {
				t.Fatalf("%v by %d: %d", votes, policy, n)
			}
		case 2:
			if impl.Policy(policy, []int{votes[1], votes[0]}) != n {
				t.Fatalf("%v by %d: the order matters", votes, policy)
			}
		case 3:
			a, b, c := votes[0], votes[1], votes[2]
			for _, other := range [][]int{{a, c, b}, {b, a, c}, {b, c, a}, {c, a, b}, {c, b, a}} {
				if impl.Policy(policy, other) != n {
					t.Fatalf("%v by %d: %v is another one", votes, policy, other)
				}
			}
		}
	}
}

func TestP40Votes(t *testing.T) {
	for _, c := range []struct {
		votes          []int
		all, any, most int
	}{
		{[]int{0}, 0, 0, 0}, {[]int{1}, 1, 1, 1}, {[]int{127}, 127, 127, 127}, {[]int{-1}, 123, 123, 123}, {[]int{123}, 123, 123, 123}, {[]int{126}, 126, 126, 126},
		{[]int{0, 0}, 0, 0, 0}, {[]int{0, 1}, 1, 0, 123}, {[]int{5, 5}, 5, 5, 5}, {[]int{0, -1}, 123, 0, 123}, {[]int{-1, -1}, 123, 123, 123}, {[]int{-1, 123}, 123, 123, 123}, {[]int{-1, 127}, 127, 123, 123}, {[]int{-1, 124}, 124, 123, 123}, {[]int{-1, 122}, 123, 122, 123}, {[]int{123, 123}, 123, 123, 123}, {[]int{123, 0}, 123, 0, 123},
		{[]int{0, 0, 0}, 0, 0, 0}, {[]int{0, 0, 1}, 1, 0, 0}, {[]int{0, 1, 1}, 1, 0, 1}, {[]int{0, 1, 2}, 2, 0, 123}, {[]int{-1, 0, 0}, 123, 0, 0}, {[]int{-1, 0, 1}, 123, 0, 123}, {[]int{-1, -1, 0}, 123, 0, 123}, {[]int{-1, -1, -1}, 123, 123, 123}, {[]int{-1, 127, 127}, 127, 123, 127}, {[]int{-1, -1, 127}, 127, 123, 123}, {[]int{-1, 123, 0}, 123, 0, 123}, {[]int{-1, 123, 123}, 123, 123, 123}, {[]int{123, 123, 0}, 123, 0, 123}, {[]int{123, 0, 0}, 123, 0, 0}, {[]int{-1, -1, 123}, 123, 123, 123}, {[]int{-1, 5, 5}, 123, 5, 5}, {[]int{126, 126, 127}, 127, 126, 126},
	} {
		for policy, want := range map[int]int{impl.PolicyAll: c.all, impl.PolicyAny: c.any, impl.PolicyMost: c.most} {
			if n := impl.Policy(policy, c.votes); n != want {
				t.Errorf("%v by %d: %d, not %d", c.votes, policy, n, want)
			}
		}
		checkPolicy(t, c.votes...)
	}
}

func TestP40AllVotes(t *testing.T) {
	t.Parallel()
	for a := -1; a <= impl.StatusMax; a++ {
		checkPolicy(t, a)
		for b := -1; b <= impl.StatusMax; b++ {
			checkPolicy(t, a, b)
		}
	}
	few := []int{-1, 0, 1, 2, 5, 63, 100, 121, 122, 123, 124, 125, 126, 127}
	for _, a := range few {
		for _, b := range few {
			for _, c := range few {
				checkPolicy(t, a, b, c)
			}
		}
	}
}

func TestP40NotOk(t *testing.T) {
	for _, policy := range []int{-1 << 63, -1, 0, 4, 5, 100, 1<<32 + 1, 1<<63 - 1} {
		for _, votes := range [][]int{nil, {0}, {1, 1}, {-1, -1, -1}, {128}} {
			if n := impl.Policy(policy, votes); n != -1 {
				t.Errorf("%v by %d: %d", votes, policy, n)
			}
		}
	}
	for _, votes := range [][]int{nil, {}, {-2}, {128}, {0, -2}, {0, 128}, {128, 0}, {0, 0, 128}, {0, -2, 0}, {1 << 40}, {-1 << 63}, {1<<63 - 1, 0}, {0, 0, 0, 0}, {1, 1, 1, -1}, make([]int, 1000)} {
		for policy := 1; policy <= 3; policy++ {
			if n := impl.Policy(policy, votes); n != -1 {
				t.Errorf("%v by %d: %d", votes, policy, n)
			}
		}
	}
	for policy := 1; policy <= 3; policy++ {
		votes, untouched := guarded(t, []int{127, -1, 0}, 99)
		impl.Policy(policy, votes)
		untouched("Policy")
		votes, untouched = guarded(t, []int{-1, 7}, 7)
		impl.Policy(policy, votes)
		untouched("Policy")
	}
}

// fillUp writes into all of a list, room behind its end included.
func fillUp[T any](list []T, mark T) {
	room := list[:cap(list)]
	for i := range room {
		room[i] = mark
	}
}

// Nothing of a message that was read is shared with another list of it, or with another answer.
func TestMsgAnswersAreNew(t *testing.T) {
	for _, m := range goodMsgs() {
		s := impl.MsgPut(m)
		second, _ := impl.MsgGet(s)
		for at := -2; at < len(m.List); at++ {
			first, _ := impl.MsgGet(s)
			rest := changedMsg(first, func(m *impl.Msg) {})
			switch at {
			case -2:
				fillUp(first.Votes, 99)
				first.Votes, rest.Votes = nil, nil
			case -1:
				fillUp(first.List, impl.Entry{Inst: 77, Ballot: 77})
				first.List, rest.List = nil, nil
			default:
				fillUp(first.List[at].Votes, 99)
				first.List[at].Votes, rest.List[at].Votes = nil, nil
			}
			if !sameMsg(first, rest) {
				t.Errorf("%q: a list is shared: %+v, not %+v", s, first, rest)
			}
		}
		if !sameMsg(second, m) {
			t.Errorf("%q: an answer is shared: %+v, not %+v", s, second, m)
		}
	}
}
