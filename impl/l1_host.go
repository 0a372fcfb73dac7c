package impl

import (
	"cmp"
	"iter"
	"slices"
	"strconv"
	"strings"
)

// Limits of hosts.
const (
	HostName = 6
	HostNum  = 999
	HostMax  = 30
	HostText = 400
)

// numberLong is how many figures a number in a text has at most.
const numberLong = 6

// Host is a name and a number.
type Host struct {
	Name string
	Num  int
}

// HostOk says whether a host is ok.
func HostOk(h Host) bool {
	return h.ok()
}

// HostPut writes a host.
func HostPut(h Host) string {
	if !h.ok() {
		return ""
	}
	return h.Name + strconv.Itoa(h.Num)
}

// HostGet reads a host.
func HostGet(s string) (Host, bool) {
	name := leading(s, isSmall)
	num, ok := numberOf(s[len(name):])
	h := Host{Name: name, Num: num}
	if !ok || !h.ok() {
		return Host{}, false
	}
	return h, true
}

// HostsOk says whether hosts are ok.
func HostsOk(list []Host) bool {
	if len(list) > HostMax {
		return false
	}
	for i, h := range list {
		if !h.ok() || i > 0 && list[i-1].compare(h) >= 0 {
			return false
		}
	}
	return true
}

// HostsFold writes hosts, folded.
func HostsFold(list []Host) string {
	if !HostsOk(list) {
		return ""
	}
	var names []string
	for group := range hostRuns(list, Host.sameName) {
		names = append(names, foldName(group))
	}
	return strings.Join(names, ",")
}

// HostsOpen reads hosts that are folded.
func HostsOpen(s string) ([]Host, bool) {
	if len(s) > HostText {
		return nil, false
	}
	list, ok := readLoosely(s)
	if !ok || HostsFold(list) != s {
		return nil, false
	}
	return list, true
}

// HostsJoin is all hosts of two lists.
func HostsJoin(a []Host, b []Host) []Host {
	if !HostsOk(a) || !HostsOk(b) {
		return nil
	}
	list := slices.Concat(a, b)
	slices.SortFunc(list, Host.compare)
	list = slices.Compact(list)
	if len(list) > HostMax {
		return nil
	}
	return list
}

func (h Host) ok() bool {
	return h.Name != "" && len(h.Name) <= HostName && leading(h.Name, isSmall) == h.Name && h.Num >= 0 && h.Num <= HostNum
}

func (h Host) compare(other Host) int {
	return cmp.Or(cmp.Compare(h.Name, other.Name), cmp.Compare(h.Num, other.Num))
}

func (h Host) sameName(next Host) bool {
	return h.Name == next.Name
}

// justAhead is asked of hosts of one name alone.
func (h Host) justAhead(next Host) bool {
	return h.Num+1 == next.Num
}

// hostRuns goes over the longest pieces of a list in which each host belongs to the one ahead of it.
func hostRuns(list []Host, belongs func(h Host, next Host) bool) iter.Seq[[]Host] {
	return func(yield func([]Host) bool) {
		for from := 0; from < len(list); {
			to := from + 1
			for to < len(list) && belongs(list[to-1], list[to]) {
				to++
			}
			if !yield(list[from:to]) {
				return
			}
			from = to
		}
	}
}

// foldName writes the hosts of one name, one at least.
func foldName(group []Host) string {
	if len(group) == 1 {
		return HostPut(group[0])
	}
	var nums []string
	for run := range hostRuns(group, Host.justAhead) {
		num := strconv.Itoa(run[0].Num)
		if len(run) > 1 {
			num += "-" + strconv.Itoa(run[len(run)-1].Num)
		}
		nums = append(nums, num)
	}
	return group[0].Name + "[" + strings.Join(nums, ",") + "]"
}

// readLoosely takes more texts than are folded: HostsOpen holds what it reads, folded again, against the text, so that there is one place that says how hosts are written.
func readLoosely(s string) ([]Host, bool) {
	var list []Host
	for rest := s; rest != ""; {
		name := leading(rest, isSmall)
		nums, behind := cutNums(rest[len(name):])
		for _, part := range strings.Split(nums, ",") {
			first, last, ok := numsOf(part)
			// A text may tell of more hosts than are worth making: no list that is too long is ok.
			if !ok || last-first >= HostMax {
				return nil, false
			}
			for num := first; num <= last; num++ {
				list = append(list, Host{Name: name, Num: num})
			}
		}
		rest = behind
	}
	return list, true
}

// cutNums parts the numbers of a name from the names behind it.
func cutNums(s string) (string, string) {
	inner, bracket := strings.CutPrefix(s, "[")
	if !bracket {
		nums, behind, _ := strings.Cut(s, ",")
		return nums, behind
	}
	nums, behind, _ := strings.Cut(inner, "]")
	return nums, strings.TrimPrefix(behind, ",")
}

// numsOf reads a number, or a first and a last one.
func numsOf(s string) (int, int, bool) {
	before, after, two := strings.Cut(s, "-")
	first, ok := numberOf(before)
	if !two || !ok {
		return first, first, ok
	}
	last, ok := numberOf(after)
	return first, last, ok
}

// numberOf reads a number: 1 to numberLong figures, without needless noughts ahead.
func numberOf(s string) (int, bool) {
	if s == "" || len(s) > numberLong || leading(s, isFigure) != s || s[0] == '0' && len(s) > 1 {
		return 0, false
	}
	num := 0
	for i := range len(s) {
		num = num*10 + int(s[i]-'0')
	}
	return num, true
}

// leading is the longest beginning of a text all bytes of which are so.
func leading(s string, is func(c byte) bool) string {
	for i := range len(s) {
		if !is(s[i]) {
			return s[:i]
		}
	}
	return s
}

func isSmall(c byte) bool {
	return c >= 'a' && c <= 'z'
}

func isFigure(c byte) bool {
	return c >= '0' && c <= '9'
}
