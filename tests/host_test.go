package tests

import (
	"math"
	"regexp"
	"slices"
	"strconv"
	"strings"
	"testing"

	"loop.example/fugleman/impl"
)

func TestHostLimits(t *testing.T) {
	if impl.HostName != 6 || impl.HostNum != 999 || impl.HostMax != 30 || impl.HostText != 400 {
		t.Error("limits of hosts")
	}
}

// P1: a host is read back as it was written.
func TestP1HostIsReadBack(t *testing.T) {
	for _, name := range []string{"a", "z", "az", "node", "abcde", "abcdef", "zzzzzz"} {
		for num := range impl.HostNum + 1 {
			h := impl.Host{Name: name, Num: num}
			s := impl.HostPut(h)
			back, ok := impl.HostGet(s)
			if !impl.HostOk(h) || s != name+strconv.Itoa(num) || !ok || back != h {
				t.Fatal(h, s, back, ok)
			}
		}
	}
}

// P1: what is no host is not written.
func TestP1HostWrong(t *testing.T) {
	bad := []impl.Host{
		{}, {Name: "", Num: 1}, {Name: "abcdefg", Num: 1}, {Name: "a", Num: -1}, {Name: "a", Num: impl.HostNum + 1},
		{Name: "a", Num: math.MinInt}, {Name: "a", Num: math.MaxInt}, {Name: "A", Num: 1}, {Name: "aZ", Num: 1}, {Name: "a1", Num: 1},
		{Name: "a b", Num: 1}, {Name: " a", Num: 1}, {Name: "a\n", Num: 1}, {Name: "a-", Num: 1}, {Name: "`", Num: 1}, {Name: "{", Num: 1},
		{Name: "\x00", Num: 1}, {Name: "\xff", Num: 1}, {Name: "é", Num: 1}, {Name: strings.Repeat("a", 1000), Num: 1},
	}
	for _, h := range bad {
		if impl.HostOk(h) || impl.HostPut(h) != "" {
			t.Error(h)
		}
	}
	small := regexp.MustCompile(`^[a-z]$`)
	for c := range 256 {
		name := string([]byte{byte(c)})
		if impl.HostOk(impl.Host{Name: name}) != small.MatchString(name) {
			t.Errorf("%q", name)
		}
	}
}

func checkHostText(t *testing.T, s string, asked bool) {
	t.Helper()
	h, ok := impl.HostGet(s)
	if ok != asked {
		t.Fatalf("HostGet(%q) is %v", s, ok)
	}
	if ok && (impl.HostPut(h) != s || !impl.HostOk(h)) || !ok && h != (impl.Host{}) {
		t.Fatalf("HostGet(%q) is %v", s, h)
	}
}

// P1: what is read is what would be written, and nothing else is read.
func TestP1HostTexts(t *testing.T) {
	good := []string{"a0", "a1", "a10", "a999", "abcdef0", "abcdef999", "z100"}
	bad := []string{
		"", "a", "7", "0", "node", "abcdef", "a00", "a01", "a007", "a1000", "a0999", "a9999", "a123456", "a1234567",
		"a99999999999999999999", "abcdefg1", "a-1", "a+1", "a 1", " a1", "a1 ", "a1\n", "A1", "a1a", "1a", "a1,b1", "a[1]", "a1.0", "é1", "a\xff1", "a\x001",
	}
	for _, s := range good {
		checkHostText(t, s, true)
	}
	for _, s := range bad {
		checkHostText(t, s, false)
	}
	form := regexp.MustCompile(`^[a-z]{1,6}(0|[1-9][0-9]{0,2})$`)
	eachText("az019A-", 6, func(s string) { checkHostText(t, s, form.MatchString(s)) })
	dice := newDice(1)
	for range 20000 {
		s := spoil(dice, good[dice.IntN(len(good))], allBytes())
		checkHostText(t, s, form.MatchString(s))
	}
}

func TestHostsOkEdges(t *testing.T) {
	full := hostsOf("a", countFrom(0, impl.HostMax)...)
	good := [][]impl.Host{nil, {}, full, hostsOf("a", 0), hostsOf("a", 9, 10, 100), slices.Concat(hostsOf("a", 999), hostsOf("aa", 0), hostsOf("b", 0))}
	for _, list := range good {
		if !impl.HostsOk(list) {
			t.Error(list)
		}
	}
	for _, list := range wrongHosts() {
		if impl.HostsOk(list) || impl.HostsFold(list) != "" {
			t.Error(list)
		}
	}
}

// wrongHosts is lists that are not ok, each for one reason.
func wrongHosts() [][]impl.Host {
	return [][]impl.Host{
		hostsOf("a", countFrom(0, impl.HostMax+1)...),
		hostsOf("a", 1, 1),
		hostsOf("a", 2, 1),
		hostsOf("a", 10, 9),
		hostsOf("A", 1),
		hostsOf("", 1),
		hostsOf("a", -1, 0),
		hostsOf("a", 999, 1000),
		slices.Concat(hostsOf("b", 1), hostsOf("a", 1)),
		slices.Concat(hostsOf("aa", 1), hostsOf("a", 2)),
		slices.Concat(hostsOf("a", 1), hostsOf("b", 1), hostsOf("a", 2)),
	}
}

// foldedTexts is texts, and the hosts that are folded so.
func foldedTexts() map[string][]impl.Host {
	return map[string][]impl.Host{
		"":                     nil,
		"a0":                   hostsOf("a", 0),
		"a[0-1]":               hostsOf("a", 0, 1),
		"a[0,2]":               hostsOf("a", 0, 2),
		"a[1-2,4]":             hostsOf("a", 1, 2, 4),
		"a[1,3-4]":             hostsOf("a", 1, 3, 4),
		"a[1-3,5,7-8]":         hostsOf("a", 1, 2, 3, 5, 7, 8),
		"node[9-11]":           hostsOf("node", 9, 10, 11),
		"a[998-999]":           hostsOf("a", 998, 999),
		"a[1-2],b3":            slices.Concat(hostsOf("a", 1, 2), hostsOf("b", 3)),
		"a1,b2":                slices.Concat(hostsOf("a", 1), hostsOf("b", 2)),
		"a1,b[2-3],c4":         slices.Concat(hostsOf("a", 1), hostsOf("b", 2, 3), hostsOf("c", 4)),
		"a[1,3],b[4-5],c[6,8]": slices.Concat(hostsOf("a", 1, 3), hostsOf("b", 4, 5), hostsOf("c", 6, 8)),
		"a9,aa[1-2],ab1":       slices.Concat(hostsOf("a", 9), hostsOf("aa", 1, 2), hostsOf("ab", 1)),
		"a[970-999]":           hostsOf("a", countFrom(970, impl.HostMax)...),
	}
}

// P2 and P3: how hosts are folded, to the letter.
func TestP2FoldedTexts(t *testing.T) {
	for s, list := range foldedTexts() {
		back, ok := impl.HostsOpen(s)
		if folded := impl.HostsFold(list); folded != s || !ok || !slices.Equal(back, list) {
			t.Errorf("%q: folded %q, opened %v %v", s, folded, back, ok)
		}
	}
}

func checkFold(t *testing.T, list []impl.Host) {
	t.Helper()
	given, untouched := guarded(t, list, impl.Host{Name: "mark", Num: 1})
	s := impl.HostsFold(given)
	untouched("HostsFold")
	back, ok := impl.HostsOpen(s)
	if !ok || !slices.Equal(back, list) {
		t.Fatalf("%v: folded %q, opened %v %v", list, s, back, ok)
	}
	names, plain := map[string]int{}, 0
	for _, h := range list {
		names[h.Name] = 1
		plain += len(impl.HostPut(h)) + 1
	}
	if len(list) > 0 && len(s) > plain-1+len(names) {
		t.Fatalf("%v: %q is too long", list, s)
	}
}

// P2: hosts are read back as they were folded, and folding makes little longer.
func TestP2FoldIsReadBack(t *testing.T) {
	dice := newDice(2)
	for range 5000 {
		checkFold(t, randomHosts(dice, impl.HostMax))
	}
	var many []impl.Host
	for i := range impl.HostMax {
		many = append(many, impl.Host{Name: "abcd" + string(rune('a'+i/26)) + string(rune('a'+i%26)), Num: 999})
	}
	checkFold(t, many)
	checkFold(t, hostsOf("abcdef", 101, 103, 105, 107, 109, 111, 113, 115, 117, 119, 121, 123, 125, 127, 129, 131, 133, 135, 137, 139, 141, 143, 145, 147, 149, 151, 153, 155, 157, 159))
}

// checkOpen asks of any text that it is just what would be folded, or nothing.
func checkOpen(t *testing.T, s string) bool {
	t.Helper()
	list, ok := impl.HostsOpen(s)
	if ok && (impl.HostsFold(list) != s || !impl.HostsOk(list)) || !ok && len(list) > 0 {
		t.Fatalf("HostsOpen(%q) is %v %v", s, list, ok)
	}
	return ok
}

// P3: what is not folded just so is not read.
func TestP3NotFolded(t *testing.T) {
	bad := []string{
		",", "a", "1", "a1,", ",a1", "a1,,b1", "a1b1", "a1 ", " a1", "a1, b1", "a1\n", "a01", "a00", "a1000", "A1", "abcdefg1", "a-1", "a1-2", "a1-2,b1",
		"a[]", "a[1]", "a[1", "a]", "a1]", "a[1-2", "a[1-2]]", "a[[1-2]]", "a[1-2],", "a[1-2]b1", "a[1-2]1", "a[1-2],[3-4]", "[1-2]", "[]",
		"a[1,2]", "a[1-1]", "a[2-1]", "a[1-2,3]", "a[1-2,3-4]", "a[1,2-3]", "a[3,1]", "a[1,1]", "a[1-3,2]", "a[1,,3]", "a[,1]", "a[1,]", "a[1-]", "a[-1]", "a[1--2]", "a[1-2-3]",
		"a[01-2]", "a[1-02]", "a[00,2]", "a[1, 3]", "a[1 -2]", "a[998-1000]", "a[0-30]", "a[0-999]", "a[0-999999]", "a[0-9999999]", "a[1-2],a4", "a1,a2", "a1,a1", "a1,a3", "b1,a1", "aa1,a1",
		"a[1,3],b", "a[1,3],b1,", "a\x00", "\xff1", "é[1-2]", "a[0-29],b1", "a1,b[0-29]",
	}
	for _, s := range bad {
		if checkOpen(t, s) {
			t.Errorf("%q was read", s)
		}
	}
	eachText("ab012[]-,", 5, func(s string) { checkOpen(t, s) })
	for s := range foldedTexts() {
		dice := newDice(uint64(len(s)))
		for range 3000 {
			checkOpen(t, spoil(dice, s, "abz0123489[]-, A\xff"))
		}
	}
}

// P3: texts that are too long are not read, and all of them are answered.
func TestP3LongTexts(t *testing.T) {
	for _, s := range []string{
		strings.Repeat("a", impl.HostText), strings.Repeat("a1,", impl.HostText/3), "a[" + strings.Repeat("0-29,", 79) + "]",
		strings.Repeat("a[0-29],", 50), strings.Repeat("[", impl.HostText+1), "a[0-999999" + strings.Repeat(",0-999999", 40) + "]", strings.Repeat("x1,", 100000),
	} {
		if checkOpen(t, s) {
			t.Errorf("a text of %d bytes was read", len(s))
		}
	}
	dice := newDice(3)
	for range 20000 {
		checkOpen(t, randomText(dice, allBytes(), 12))
	}
}

func bothHosts(a []impl.Host, b []impl.Host) []impl.Host {
	found := map[impl.Host]int{}
	var list []impl.Host
	for _, h := range slices.Concat(a, b) {
		if found[h] == 0 {
			list = append(list, h)
		}
		found[h]++
	}
	slices.SortFunc(list, compareHosts)
	return list
}

func checkJoin(t *testing.T, a []impl.Host, b []impl.Host, want []impl.Host) {
	t.Helper()
	mark := impl.Host{Name: "mark", Num: 1}
	givenA, untouchedA := guarded(t, a, mark)
	givenB, untouchedB := guarded(t, b, mark)
	got := impl.HostsJoin(givenA, givenB)
	if !slices.Equal(got, want) {
		t.Fatalf("%v and %v: %v, not %v", a, b, got, want)
	}
	if !slices.Equal(impl.HostsJoin(givenB, givenA), want) {
		t.Fatalf("%v and %v: not the same turned", a, b)
	}
	if len(want) > 0 && (!slices.Equal(impl.HostsJoin(got, givenA), want) || !slices.Equal(impl.HostsJoin(givenB, got), want)) {
		t.Fatalf("%v and %v: not the same with one again", a, b)
	}
	whole := got[:cap(got)]
	for i := range whole {
		whole[i] = mark
	}
	untouchedA("HostsJoin")
	untouchedB("HostsJoin")
}

// P4: the hosts of two lists are those of both, each once, ascending.
func TestP4Join(t *testing.T) {
	dice := newDice(4)
	for range 5000 {
		a, b := randomHosts(dice, 20), randomHosts(dice, 20)
		want := bothHosts(a, b)
		if len(want) > impl.HostMax {
			want = nil
		}
		checkJoin(t, a, b, want)
	}
	checkJoin(t, nil, nil, nil)
	checkJoin(t, hostsOf("a", 1), nil, hostsOf("a", 1))
	checkJoin(t, hostsOf("b", 1), hostsOf("a", 10), slices.Concat(hostsOf("a", 10), hostsOf("b", 1)))
	checkJoin(t, hostsOf("a", 10), hostsOf("a", 9), hostsOf("a", 9, 10))
}

// P4: just HostMax hosts, one more, and lists that are not ok.
func TestP4JoinEdges(t *testing.T) {
	full := hostsOf("a", countFrom(0, impl.HostMax)...)
	checkJoin(t, full, full, full)
	checkJoin(t, full[:15], full[15:], full)
	checkJoin(t, full[:20], full[10:], full)
	checkJoin(t, full, nil, full)
	checkJoin(t, full, hostsOf("a", impl.HostMax), nil)
	checkJoin(t, full, hostsOf("b", 0), nil)
	for _, list := range wrongHosts() {
		checkJoin(t, list, nil, nil)
		checkJoin(t, list, hostsOf("a", 1), nil)
		checkJoin(t, hostsOf("c", 1, 2), list, nil)
		checkJoin(t, list, list, nil)
	}
}

// Nothing of an answer is shared with another answer.
func TestHostsAnswersAreNew(t *testing.T) {
	first, _ := impl.HostsOpen("a[1-3]")
	whole := first[:cap(first)]
	for i := range whole {
		whole[i] = impl.Host{Name: "x", Num: 9}
	}
	second, ok := impl.HostsOpen("a[1-3]")
	if !ok || !slices.Equal(second, hostsOf("a", 1, 2, 3)) {
		t.Error(second)
	}
}
