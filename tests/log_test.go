package tests

import (
	"math/rand/v2"
	"slices"
	"strconv"
	"strings"
	"testing"

	"loop.example/fugleman/impl"
)

func TestLogLimits(t *testing.T) {
	if impl.RecordMax != 60 || impl.LogMax != 6000 {
		t.Error("limits of logs")
	}
}

// recordFits says whether a text is a record.
func recordFits(s string) bool {
	for i := range len(s) {
		if s[i] < 32 || s[i] > 126 {
			return false
		}
	}
	return len(s) >= 1 && len(s) <= 60
}

func recordText(s string) string {
	return strconv.Itoa(len(s)) + ":" + s + ";"
}

// nextRecord is the record with which a text begins: each length that one may have is tried.
func nextRecord(s string) (string, bool) {
	for size := 1; size <= 60; size++ {
		head := strconv.Itoa(size) + ":"
		end := len(head) + size
		if strings.HasPrefix(s, head) && len(s) > end && s[end] == ';' && recordFits(s[len(head):end]) {
			return s[len(head):end], true
		}
	}
	return "", false
}

// readAs is what must be read of a log.
func readAs(log string) ([]string, int) {
	if len(log) > 6000 {
		return nil, 0
	}
	var list []string
	at := 0
	for {
		record, ok := nextRecord(log[at:])
		if !ok {
			return list, at
		}
		list = append(list, record)
		at += len(recordText(record))
	}
}

// checkRead holds what is read of a log against what must be, and writes it again (P43).
func checkRead(t *testing.T, log string) ([]string, int) {
	t.Helper()
	list, size := impl.LogRead(log)
	want, wantSize := readAs(log)
	if !slices.Equal(list, want) || size != wantSize {
		t.Fatalf("%q: %q %d, not %q %d", log, list, size, want, wantSize)
	}
	again := ""
	for _, record := range list {
		next, ok := impl.LogAdd(again, record)
		if !ok {
			t.Fatalf("%q: %q is not added", log, record)
		}
		again = next
	}
	if again != log[:size] {
		t.Fatalf("%q: written again %q", log, again)
	}
	return list, size
}

// checkAdd asks for a log with one more record (P41), and says whether that is so.
func checkAdd(t *testing.T, log string, record string) bool {
	t.Helper()
	longer, ok := impl.LogAdd(log, record)
	want := log + recordText(record)
	if fits := recordFits(record) && len(want) <= 6000; ok != fits || !fits && longer != log || fits && longer != want {
		t.Fatalf("%q behind %q: %q %v", record, log, longer, ok)
	}
	list, size := checkRead(t, log)
	if ok && size == len(log) {
		more, moreSize := checkRead(t, longer)
		if !slices.Equal(more, append(slices.Clone(list), record)) || moreSize != len(longer) {
			t.Fatalf("%q behind %q: read as %q %d", record, log, more, moreSize)
		}
	}
	return ok
}

// checkTear asks for each part of a record behind a log (P42).
func checkTear(t *testing.T, log string, record string) {
	t.Helper()
	longer, ok := impl.LogAdd(log, record)
	added := len(longer) - len(log)
	list, size := impl.LogRead(log)
	for _, bytes := range append(countFrom(-2, added+6), -1<<63, -1000, 1000, 1<<62, 1<<63-1) {
		torn := impl.LogTear(log, record, bytes)
		want := log + longer[len(log):][:max(0, min(bytes, added))]
		if torn != want {
			t.Fatalf("%d bytes of %q behind %q: %q, not %q", bytes, record, log, torn, want)
		}
		if !ok && torn != log {
			t.Fatalf("%d bytes of %q behind %q: %q", bytes, record, log, torn)
		}
		if size != len(log) {
			continue
		}
		readable := list
		if ok && bytes >= added {
			readable = append(slices.Clone(list), record)
		}
		if left, leftSize := checkRead(t, torn); !slices.Equal(left, readable) || leftSize != len(log) && leftSize != len(longer) {
			t.Fatalf("%d bytes of %q behind %q: %q %d", bytes, record, log, left, leftSize)
		}
	}
}

// trickyRecords look like two, or like the beginning or the end of one.
func trickyRecords() []string {
	list := []string{"i 0", "d 0", "c 0 123", "a 11 9999 -1,127,0", "1:a;2:bc;", ";", "3:", ":", "1:", "1:;", "0:", "0:;", "1:a;", "1:a", ":a;", "a;1:b;", "a;1:b", ";1:a", ";1:a;", ";;", "::", ";3:i 0;", ";3:i 0", "5:", "60:", "1:a;1:b;1:c;", " ", "~", " a ", "1", "11", "3:1:a;", "\\", "\"", "'", "-", "+1:a;"}
	for _, size := range []int{9, 10, 11, 58, 59, 60} {
		list = append(list, strings.Repeat("x", size), strings.Repeat(";", size), strings.Repeat(":", size), strings.Repeat("1:a;", 15)[:size])
	}
	return list
}

// textsThatAreNone are no records.
func textsThatAreNone() []string {
	return []string{"", "\n", "a\n", "\na", "\t", "\x00", "a\x00b", "\x7f", "\x80", "\xff", "é", "\x1f", strings.Repeat("x", 61), strings.Repeat(" ", 61), strings.Repeat("1:a;", 16), strings.Repeat("x", 7000), strings.Repeat("x", 59) + "\n"}
}

func TestP41Added(t *testing.T) {
	log := ""
	for i, record := range trickyRecords() {
		if !checkAdd(t, "", record) || !checkAdd(t, log, record) {
			t.Fatalf("%q is not added", record)
		}
		log, _ = impl.LogAdd(log, record)
		if list, size := checkRead(t, log); len(list) != i+1 || size != len(log) {
			t.Fatalf("%q: %q", log, list)
		}
	}
	if list, _ := impl.LogRead(log); !slices.Equal(list, trickyRecords()) {
		t.Errorf("%q", list)
	}
	for _, first := range trickyRecords() {
		for _, second := range trickyRecords() {
			if !checkAdd(t, recordText(first), second) {
				t.Errorf("%q behind %q", second, first)
			}
		}
	}
}

func TestP41Bytes(t *testing.T) {
	for c := range 256 {
		char := string([]byte{byte(c)})
		for _, record := range []string{char, "a" + char, char + "a", "a" + char + "a"} {
			if ok := checkAdd(t, "1:a;", record); ok != (c >= ' ' && c <= '~') {
				t.Errorf("%q: %v", record, ok)
			}
		}
	}
}

func TestP41Sizes(t *testing.T) {
	for size := range 70 {
		for _, char := range []string{"x", ";", " "} {
			if ok := checkAdd(t, "3:i 0;", strings.Repeat(char, size)); ok != (size >= 1 && size <= impl.RecordMax) {
				t.Errorf("%d bytes: %v", size, ok)
			}
		}
	}
	for _, record := range textsThatAreNone() {
		for _, log := range []string{"", "3:i 0;", "3:i", "\xff"} {
			if checkAdd(t, log, record) {
				t.Errorf("%q behind %q", record, log)
			}
			checkTear(t, log, record)
		}
	}
}

// fullUpTo is a log that is whole and leaves so much room.
func fullUpTo(room int) string {
	size := impl.LogMax - room
	many := size/64 - 1
	left := size - 64*many
	log := strings.Repeat(recordText(strings.Repeat("y", 60)), many)
	return log + recordText(strings.Repeat("z", left/2-4)) + recordText(strings.Repeat("z", left-left/2-4))
}

func TestP41Full(t *testing.T) {
	t.Parallel()
	for room := range 67 {
		log := fullUpTo(room)
		if len(log) != impl.LogMax-room {
			t.Fatalf("%d: %d", room, len(log))
		}
		if _, size := checkRead(t, log); size != len(log) {
			t.Fatalf("%d: %d", room, size)
		}
		for size := 1; size <= 60; size++ {
			record := strings.Repeat("x", size)
			takes := len(recordText(record))
			if size > 1 && size < 60 && (takes < room-2 || takes > room+2) {
				continue
			}
			if ok := checkAdd(t, log, record); ok != (takes <= room) {
				t.Errorf("%d bytes behind a log with room for %d: %v", size, room, ok)
			}
			if takes >= room-1 && takes <= room+1 {
				checkTear(t, log, record)
			}
		}
	}
}

func TestP41Long(t *testing.T) {
	for _, size := range []int{5995, 5996, 5997, 5999, 6000, 6001, 6002, 7000, 100000} {
		for _, char := range []string{"x", "\xff", ";", "1", ":"} {
			log := strings.Repeat(char, size)
			if ok := checkAdd(t, log, "a"); ok != (size <= impl.LogMax-4) {
				t.Errorf("%d bytes: %v", size, ok)
			}
			checkTear(t, log, "a")
		}
	}
	// What is too long has nothing that is read, though all of it is written so.
	for many, want := range map[int]int{1499: 1499, 1500: 1500, 1501: 0, 3000: 0} {
		log := strings.Repeat("1:a;", many)
		if list, size := checkRead(t, log); len(list) != want || size != 4*want {
			t.Errorf("%d: %d %d", many, len(list), size)
		}
	}
	if list, size := checkRead(t, strings.Repeat("1:a;", 1500)+"x"); len(list) != 0 || size != 0 {
		t.Error(list, size)
	}
	if list, size := checkRead(t, strings.Repeat("1:a;", 1499)+"3:ab"); len(list) != 1499 || size != 5996 {
		t.Error(len(list), size)
	}
}

// What is added stands behind a log that is not whole, too, though it is not read there.
func TestP41BehindTornLogs(t *testing.T) {
	for _, log := range []string{"3:i", "3:i 0", "x", "\xff\x00", "1:a;2", "1:a;;", "0:;", "01:a;"} {
		if !checkAdd(t, log, "d 0") {
			t.Errorf("%q", log)
		}
		list, _ := impl.LogRead(log)
		longer, _ := impl.LogAdd(log, "d 0")
		if more, _ := checkRead(t, longer); len(more) > len(list)+1 {
			t.Errorf("%q: %q, then %q", log, list, more)
		}
		checkTear(t, log, "d 0")
	}
	// A part that is left may make a record of what comes behind it.
	if longer, ok := impl.LogAdd("5:", "abc"); !ok || longer != "5:3:abc;" {
		t.Error(longer, ok)
	}
	if list, size := checkRead(t, "5:3:abc;"); len(list) != 1 || list[0] != "3:abc" || size != 8 {
		t.Error(list, size)
	}
}

func TestP42Torn(t *testing.T) {
	for _, record := range trickyRecords() {
		for _, log := range []string{"", "3:i 0;", "1:;;", "8:1:a;2:b;;", "10:1:a;2:bc;3;"} {
			if _, size := checkRead(t, log); size != len(log) {
				t.Fatalf("%q is not whole", log)
			}
			checkTear(t, log, record)
		}
	}
	for bytes, want := range map[int]string{-1 << 63: "1:a;", -1: "1:a;", 0: "1:a;", 1: "1:a;3", 2: "1:a;3:", 3: "1:a;3:i", 4: "1:a;3:i ", 5: "1:a;3:i 0", 6: "1:a;3:i 0;", 7: "1:a;3:i 0;", 1<<63 - 1: "1:a;3:i 0;"} {
		if torn := impl.LogTear("1:a;", "i 0", bytes); torn != want {
			t.Errorf("%d: %q, not %q", bytes, torn, want)
		}
	}
}

func TestP43Spoilt(t *testing.T) {
	long := strings.Repeat("x", 60)
	for log, want := range map[string][]string{
		"": nil, ";": nil, ":": nil, "1": nil, "1:": nil, "1:a": nil, "1:a;": {"a"}, "1a;": nil, "1;a;": nil, ":a;": nil, "a;": nil,
		// Lengths with needless noughts, signs and blanks, or 0.
		"0:;": nil, "0:": nil, "00:;": nil, "01:a;": nil, "001:a;": nil, "+1:a;": nil, "-1:a;": nil, "-0:;": nil, " 1:a;": nil, "1 :a;": nil, "1: a;": nil, "1.0:a;": nil, "0x1:a;": nil, "1_:a;": nil, "\n1:a;": nil, "x1:a;": nil, "１:a;": nil,
		// Too great, too small.
		"2:a;": nil, "3:a;": nil, "1:ab;": nil, "2:abc;": nil, "3:ab;": nil, "2:a;;": {"a;"}, "3:a;b;": {"a;b"}, "5:1:a;;": nil, "4:1:a;;": {"1:a;"}, "3:1:a;": {"1:a"},
		"60:" + long + ";": {long}, "61:x" + long + ";": nil, "60:" + long + "x;": nil, "060:" + long + ";": nil, "59:" + long + ";": nil, "100:" + strings.Repeat("x", 100) + ";": nil, "600:" + long + ";": nil,
		// Past what a number holds, or what wraps round to 1.
		"4294967297:a;": nil, "18446744073709551617:a;": nil, "9223372036854775807:a;": nil, "9223372036854775808:a;": nil, "18446744073709551615:a;": nil, "99999999999999999999999999999999:a;": nil, "1000001:a;": nil, "1000000:a;": nil, "999999:a;": nil, "257:a;": nil, "65537:a;": nil,
		// Bytes that are not printed.
		"1:\n;": nil, "1:\x00;": nil, "1:\x7f;": nil, "1:\x80;": nil, "1:\xff;": nil, "3:a\tb;": nil, "2:é;": nil, "1:~;": {"~"}, "1: ;": {" "}, "1:a\n": nil, "1:a\x00": nil,
		// Others behind what can be read.
		"1:a;x": {"a"}, "1:a;;": {"a"}, "1:a; ": {"a"}, "1:a;\n": {"a"}, "1:a;1:b": {"a"}, "1:a;1:b;": {"a", "b"}, "1:a;01:b;1:c;": {"a"}, "1:a;0:;1:c;": {"a"}, "1:a;1:\xff;1:c;": {"a"}, "1:a;61:x" + long + ";1:c;": {"a"}, "1:a;1b;1:c;": {"a"}, "1:a;1:b1:c;": {"a"}, "1:a;\n1:b;": {"a"}, "1:a; 1:b;": {"a"}, "1:a,1:b;": nil, "7:1:a;2:b;x": {"1:a;2:b"}, "3:i 0;3:d": {"i 0"},
	} {
		list, size := checkRead(t, log)
		takes := 0
		for _, record := range want {
			takes += len(recordText(record))
		}
		if !slices.Equal(list, want) || size != takes {
			t.Errorf("%q: %q %d, not %q %d", log, list, size, want, takes)
		}
	}
}

func TestP43AllTexts(t *testing.T) {
	t.Parallel()
	found := 0
	eachText("012:;a", 7, func(s string) {
		if list, _ := checkRead(t, s); len(list) > 0 {
			found++
		}
	})
	if found < 1000 {
		t.Error(found)
	}
}

func randomRecord(dice *rand.Rand) string {
	if dice.IntN(3) == 0 {
		list := trickyRecords()
		return list[dice.IntN(len(list))]
	}
	return "r" + randomText(dice, "0123456789:; acdikpx,-", []int{3, 8, 59}[dice.IntN(3)])
}

func randomLog(dice *rand.Rand, most int) string {
	log := ""
	for range dice.IntN(most + 1) {
		log += recordText(randomRecord(dice))
	}
	return log
}

func TestP43RandomLogs(t *testing.T) {
	t.Parallel()
	dice := newDice(43)
	whole, torn := 0, 0
	for range 4000 {
		log := randomLog(dice, 8)
		if _, size := checkRead(t, log); size != len(log) {
			t.Fatalf("%q is not whole", log)
		}
		record := randomRecord(dice)
		checkAdd(t, log, record)
		checkTear(t, log, record)
		for range 4 {
			other := spoil(dice, log, "0123456789:;a \n\x00\xff")
			if _, size := checkRead(t, other); size == len(other) {
				whole++
			} else {
				torn++
			}
			checkAdd(t, other, record)
		}
	}
	if whole < 2000 || torn < 2000 {
		t.Error(whole, torn)
	}
	for range 4000 {
		checkRead(t, randomText(dice, allBytes(), 40))
		checkRead(t, "1:a;"+randomText(dice, "012:;a", 30))
	}
}

// A log that is torn at any place reads as its first records, as far as they are whole, and is spoilt nowhere ahead of the place where a byte is another one.
func TestP43EachPlace(t *testing.T) {
	t.Parallel()
	log := "3:i 0;8:1:a;2:b;;12:k 0 0,-1,127;1:;;"
	all, size := checkRead(t, log)
	if len(all) != 4 || size != len(log) {
		t.Fatalf("%q %d", all, size)
	}
	ends := []int{0, 6, 17, 33, 37}
	for at := range len(log) {
		many := 0
		for many+1 < len(ends) && ends[many+1] <= at {
			many++
		}
		if list, size := checkRead(t, log[:at]); !slices.Equal(list, all[:many]) || size != ends[many] {
			t.Errorf("%q: %q %d", log[:at], list, size)
		}
		for c := range 256 {
			list, size := checkRead(t, log[:at]+string([]byte{byte(c)})+log[at+1:])
			if len(list) < many || !slices.Equal(list[:many], all[:many]) || size < ends[many] {
				t.Errorf("%q with %d at %d: %q %d", log, c, at, list, size)
			}
		}
	}
}

func TestLogAnswersAreNew(t *testing.T) {
	dice := newDice(44)
	for range 200 {
		log := randomLog(dice, 9)
		first, _ := impl.LogRead(log)
		second, _ := impl.LogRead(log)
		want, _ := readAs(log)
		fillUp(first, "mark")
		if third, _ := impl.LogRead(log); !slices.Equal(second, want) || !slices.Equal(third, want) {
			t.Errorf("%q: an answer is shared: %q %q", log, second, third)
		}
	}
}
