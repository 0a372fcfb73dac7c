package tests

import (
	"math/rand/v2"
	"runtime/debug"
	"slices"
	"strings"
	"testing"

	"loop.example/fugleman/impl"
)

// TestMain lets garbage lie longer: the tests make little at a time, but so often that most of their time would go into collecting it.
func TestMain(m *testing.M) {
	debug.SetGCPercent(800)
	m.Run()
}

// newDice is the same row of throws at every run, so that a failure can be seen again.
func newDice(seed uint64) *rand.Rand {
	return rand.New(rand.NewPCG(seed, 73))
}

func randomText(dice *rand.Rand, alphabet string, most int) string {
	b := make([]byte, dice.IntN(most+1))
	for i := range b {
		b[i] = alphabet[dice.IntN(len(alphabet))]
	}
	return string(b)
}

// spoil changes a text at one place: a byte goes, comes, or is another one.
func spoil(dice *rand.Rand, s string, alphabet string) string {
	at := dice.IntN(len(s) + 1)
	char := string(alphabet[dice.IntN(len(alphabet))])
	switch dice.IntN(3) {
	case 0:
		return s[:at] + char + s[at:]
	case 1:
		return s[:at] + s[min(at+1, len(s)):]
	}
	return s[:at] + char + s[min(at+1, len(s)):]
}

// eachText calls with all texts of the alphabet of at most so many bytes.
func eachText(alphabet string, most int, call func(s string)) {
	var from func(s string)
	from = func(s string) {
		call(s)
		if len(s) == most {
			return
		}
		for i := range len(alphabet) {
			from(s + alphabet[i:i+1])
		}
	}
	from("")
}

// allBytes is each byte once.
func allBytes() string {
	var b strings.Builder
	for c := range 256 {
		b.WriteByte(byte(c))
	}
	return b.String()
}

// guarded is a copy of a list with room behind its end, and a check that neither was written into.
func guarded[T comparable](t *testing.T, list []T, mark T) ([]T, func(what string)) {
	t.Helper()
	room := append(slices.Clone(list), mark, mark, mark)
	kept := slices.Clone(room)
	return room[:len(list)], func(what string) {
		t.Helper()
		if !slices.Equal(room, kept) {
			t.Errorf("%s wrote into an argument: %v, it was %v", what, room, kept)
		}
	}
}

func hostsOf(name string, nums ...int) []impl.Host {
	var list []impl.Host
	for _, num := range nums {
		list = append(list, impl.Host{Name: name, Num: num})
	}
	return list
}

// countFrom is so many numbers, one behind the other.
func countFrom(first int, many int) []int {
	nums := make([]int, many)
	for i := range nums {
		nums[i] = first + i
	}
	return nums
}

// randomHosts is a list that is ok, of few names and of numbers that often follow on from each other.
func randomHosts(dice *rand.Rand, most int) []impl.Host {
	names := []string{"a", "ab", "abc", "b", "node", "zzzzzz"}
	found := map[impl.Host]int{}
	want := dice.IntN(most + 1)
	for len(found) < want {
		h := impl.Host{Name: names[dice.IntN(len(names))], Num: dice.IntN(25)}
		if dice.IntN(4) == 0 {
			h.Num = 985 + dice.IntN(15)
		}
		found[h] = 1
	}
	var list []impl.Host
	for h := range found {
		list = append(list, h)
	}
	slices.SortFunc(list, compareHosts)
	return list
}

func compareHosts(a impl.Host, b impl.Host) int {
	if c := strings.Compare(a.Name, b.Name); c != 0 {
		return c
	}
	return a.Num - b.Num
}
