package tests

import (
	"fmt"
	"math/rand/v2"
	"slices"
	"strings"
	"testing"

	"loop.example/fugleman/impl"
)

func TestWorldLimits(t *testing.T) {
	kinds := []int{impl.WorldTick, impl.WorldBring, impl.WorldKeep, impl.WorldLose, impl.WorldSpoil, impl.WorldFallHear, impl.WorldFall, impl.WorldRise}
	if !slices.Equal(kinds, countFrom(1, 8)) {
		t.Error("kinds of events", kinds)
	}
	if impl.RadioMax != 50 || impl.PlayMax != 80 || impl.DrainMax != 300 || impl.CalmMax != 100 {
		t.Error("limits of worlds")
	}
}

// someCodes are codes that are ok: what runs nothing, what has no end, and what scripts say.
func someCodes(t *testing.T) [][]impl.Op {
	t.Helper()
	codes := [][]impl.Op{{does(impl.OpEnd)}, {does(impl.OpNot), does(impl.OpEnd)}, {leads(impl.OpGo, 0), does(impl.OpEnd)}, {sets("i", "x"), runs("echo $i"), does(impl.OpEnd)}, slices.Concat(slices.Repeat([]impl.Op{runs("true")}, 99), []impl.Op{does(impl.OpEnd)})}
	for _, script := range []string{"true", "echo a > f; false || cat f", "while true; do echo $?; done", "x=1 | cat; for i in a b; do test $i = a; done"} {
		codes = append(codes, codeOf(t, script))
	}
	return append(codes, commonCode(t))
}

func TestP59New(t *testing.T) {
	t.Parallel()
	dice := newDice(59)
	codes := someCodes(t)
	for range 40 {
		codes = append(codes, randomProgram(dice))
	}
	ended := 0
	for _, code := range append(codes, wrongCodes()...) {
		for _, policy := range []int{-1 << 63, -1, 0, 1, 2, 3, 4, 1 << 40} {
			for _, many := range []int{-1 << 63, -1, 0, 1, 2, 3, 4, 10, 1<<63 - 1} {
				given, untouched := guarded(t, code, runs("mark"))
				w := impl.WorldNew(given, policy, many)
				played := impl.WorldPlay(given, policy, many, nil)
				untouched("WorldNew")
				fits := impl.CodeOk(code) && policy >= 1 && policy <= 3 && many >= 1 && many <= 3
				if checkWorld(t, w) != fits || !fits && !sameWorld(w, impl.World{}) || !sameWorld(w, played) {
					t.Fatalf("%+v, %d, %d: %s, %s", code, policy, many, worldText(w), worldText(played))
				}
				if !fits {
					continue
				}
				end := impl.MachEnd(code, impl.MachNew(code))
				if !sameWorld(w, newTown(code, policy, many).World) || !impl.WorldSafe(w) || len(w.Radio) > 0 || len(impl.WorldWay(w)) > 0 || impl.WorldDone(w) != end {
					t.Fatalf("%+v, %d, %d: %s", code, policy, many, worldText(w))
				}
				if end {
					ended++
				}
			}
		}
	}
	if ended < 20 {
		t.Error(ended)
	}
}

// stage is a world in which things happen one by one: each is held against the second world, and asked whether all go one way.
type stage struct {
	t     *testing.T
	world impl.World
}

func stageOf(t *testing.T, script string, policy int, many int) *stage {
	t.Helper()
	s := &stage{t: t, world: impl.WorldNew(codeOf(t, script), policy, many)}
	if !impl.WorldOk(s.world) {
		t.Fatalf("%q: %s", script, worldText(s.world))
	}
	return s
}

// does lets something happen that must be so, or can't.
func (s *stage) does(want bool, kind int, at int, num int) {
	s.t.Helper()
	next, could := checkEvent(s.t, s.world, impl.Event{Kind: kind, At: at, Num: num})
	if could != want {
		s.t.Fatalf("%d %d %d: %v, %s", kind, at, num, could, worldText(s.world))
	}
	way := impl.WorldWay(next)
	if !impl.WorldSafe(next) || !startsWith(way, impl.WorldWay(s.world)) {
		s.t.Fatalf("%d %d %d: not safe: %s", kind, at, num, worldText(next))
	}
	s.world = next
}

func startsWith[T comparable](list []T, first []T) bool {
	return len(list) >= len(first) && slices.Equal(list[:len(first)], first)
}

// tick lets one tick so often.
func (s *stage) tick(at int, times int) {
	s.t.Helper()
	for range times {
		s.does(true, impl.WorldTick, at, 0)
	}
}

// under is what is under way, without sums; `?` is what can't be read.
func (s *stage) under() string {
	var heads []string
	for _, text := range s.world.Radio {
		head := "?"
		if m, ok := msgMeant(text); ok {
			head = headText(m)
		}
		heads = append(heads, head)
	}
	return strings.Join(heads, " | ")
}

// on does something with the first message under way that begins so.
func (s *stage) on(kind int, head string, num int) {
	s.t.Helper()
	for at, one := range strings.Split(s.under(), " | ") {
		if strings.HasPrefix(one, head) {
			s.does(true, kind, at, num)
			return
		}
	}
	s.t.Fatalf("no %q is under way: %s", head, s.under())
}

// bring lets messages be heard, in this order.
func (s *stage) bring(heads ...string) {
	s.t.Helper()
	for _, head := range heads {
		s.on(impl.WorldBring, head, 0)
	}
}

// loseAll takes all messages off that begin so.
func (s *stage) loseAll(head string) {
	s.t.Helper()
	for at := len(s.world.Radio) - 1; at >= 0; at-- {
		if strings.HasPrefix(strings.Split(s.under(), " | ")[at], head) {
			s.does(true, impl.WorldLose, at, 0)
		}
	}
}

func (s *stage) isUnder(want string) {
	s.t.Helper()
	if s.under() != want {
		s.t.Fatalf("under way is %s, not %s", s.under(), want)
	}
}

// way asks how what was decided ended.
func (s *stage) way(want ...int) {
	s.t.Helper()
	if way := impl.WorldWay(s.world); !slices.Equal(way, want) {
		s.t.Fatalf("%v, not %v: %s", way, want, worldText(s.world))
	}
}

// ends lets all come to their end, and asks how what was decided ended.
func (s *stage) ends(want ...int) {
	s.t.Helper()
	s.world = checkCalm(s.t, s.world, 40)
	s.way(want...)
	if !impl.WorldDone(s.world) || !impl.WorldSafe(s.world) {
		s.t.Fatalf("%s", worldText(s.world))
	}
}

func TestP60Ticks(t *testing.T) {
	t.Parallel()
	s := stageOf(t, "echo a > f; false || cat f", impl.PolicyAll, 2)
	for _, at := range []int{-1 << 63, -1, 2, 3, 9, 13, 100, 1<<63 - 1} {
		s.does(false, impl.WorldTick, at, 0)
		s.does(false, impl.WorldFall, at, 0)
		s.does(false, impl.WorldRise, at, 0)
	}
	for _, at := range []int{0, 1, 10, 11, 12} {
		s.does(false, impl.WorldRise, at, 0)
	}
	s.does(true, impl.WorldTick, 1, -7)
	s.isUnder("1 1 10 0 0 0 - | 1 1 11 0 0 0 - | 1 1 12 0 0 0 -")
	s.tick(10, 3)
	s.isUnder("1 1 10 0 0 0 - | 1 1 11 0 0 0 - | 1 1 12 0 0 0 - | 2 10 11 3 0 - - | 2 10 12 3 0 - -")
	if a := s.world.Agents[1]; a.Log != "3:i 0;3:d 0;" || a.Mach.Box.Files[0].Text != "a\n" || s.world.Agents[0].Log != "" || s.world.Reps[0].Log != "3:p 3;" {
		t.Errorf("%s", worldText(s.world))
	}
	// Who fell ticks no more, falls no more, and rises once.
	for _, at := range []int{0, 12} {
		s.does(true, impl.WorldFall, at, 3)
		s.does(false, impl.WorldTick, at, 0)
		s.does(false, impl.WorldFall, at, 3)
		s.does(true, impl.WorldRise, at, 3)
		s.does(false, impl.WorldRise, at, 0)
	}
	s.isUnder("1 1 10 0 0 0 - | 1 1 11 0 0 0 - | 1 1 12 0 0 0 - | 2 10 11 3 0 - - | 2 10 12 3 0 - -")
	for num, log := range map[int]string{-1 << 63: "", -1: "", 0: "", 1: "3", 6: "3:i 0;", 11: "3:i 0;3:d 0", 12: "3:i 0;3:d 0;", 13: "3:i 0;3:d 0;", 1<<63 - 1: "3:i 0;3:d 0;"} {
		next, could := checkEvent(t, s.world, impl.Event{Kind: impl.WorldFall, At: 0, Num: num})
		if a := next.Agents[0]; !could || a.Up || a.Log != log || !isNothing(a.Mach) {
			t.Errorf("%d: %+v", num, a)
		}
	}
	s.ends(0, 1, 0)
}

func TestP60Radio(t *testing.T) {
	t.Parallel()
	s := stageOf(t, "false", impl.PolicyAny, 1)
	for _, kind := range countFrom(2, 5) {
		for _, at := range []int{-1 << 63, -1, 0, 1, 10, 50, 1<<63 - 1} {
			s.does(false, kind, at, 0)
		}
	}
	s.tick(0, 1)
	s.tick(10, 3)
	all := "1 0 10 0 0 1 - | 1 0 11 0 0 1 - | 1 0 12 0 0 1 - | 2 10 11 3 0 - - | 2 10 12 3 0 - -"
	s.isUnder(all)
	for _, kind := range append(countFrom(-2, 3), append(countFrom(9, 4), -1<<63, 1<<63-1, 1<<32+2, 258)...) {
		s.does(false, kind, 0, 0)
	}
	for _, kind := range countFrom(2, 5) {
		s.does(false, kind, 5, 0)
		s.does(false, kind, -1, 0)
	}
	// What is kept stays in its place, and what is told by it comes behind.
	s.does(true, impl.WorldKeep, 3, 0)
	s.isUnder(all + " | 3 11 10 3 0 - -")
	s.does(true, impl.WorldKeep, 3, 0)
	s.isUnder(all + " | 3 11 10 3 0 - - | 3 11 10 3 0 - -")
	s.does(true, impl.WorldBring, 3, 0)
	s.isUnder("1 0 10 0 0 1 - | 1 0 11 0 0 1 - | 1 0 12 0 0 1 - | 2 10 12 3 0 - - | 3 11 10 3 0 - - | 3 11 10 3 0 - - | 3 11 10 3 0 - -")
	s.does(true, impl.WorldLose, 1, 0)
	s.does(true, impl.WorldLose, 4, 0)
	s.isUnder("1 0 10 0 0 1 - | 1 0 12 0 0 1 - | 2 10 12 3 0 - - | 3 11 10 3 0 - - | 3 11 10 3 0 - -")
	// What was spoilt can't be heard, however often it is brought, and is taken off.
	size := len(s.world.Radio[2])
	for num, at := range map[int]int{0: 0, 1: 1, size - 1: size - 1, size: 0, 10*size + 3: 3, 1<<63 - 1: (1<<63 - 1) % size} {
		next, could := checkEvent(t, s.world, impl.Event{Kind: impl.WorldSpoil, At: 2, Num: num})
		if text := next.Radio[2]; !could || text != s.world.Radio[2][:at]+"\xff"+s.world.Radio[2][at+1:] {
			t.Errorf("%d: %q", num, text)
		}
		for kind := range map[int]int{impl.WorldBring: 0, impl.WorldKeep: 0, impl.WorldFallHear: 0} {
			brought, could := checkEvent(t, next, impl.Event{Kind: kind, At: 2, Num: 3})
			if !could || !slices.EqualFunc(brought.Reps, s.world.Reps, sameRep) || (len(brought.Radio) == 5) != (kind == impl.WorldKeep) {
				t.Errorf("%d: %s", kind, worldText(brought))
			}
		}
	}
	for _, num := range []int{-1, -400, -1 << 63} {
		s.does(false, impl.WorldSpoil, 2, num)
	}
	s.on(impl.WorldSpoil, "2 10 12", 0)
	s.on(impl.WorldSpoil, "?", 0)
	s.isUnder("1 0 10 0 0 1 - | 1 0 12 0 0 1 - | ? | 3 11 10 3 0 - - | 3 11 10 3 0 - -")
	s.bring("?", "1 0 10", "3 11 10")
	if r := s.world.Reps[0]; !slices.Equal(r.Yes, []int{10, 11}) || !slices.Equal(r.Got, []int{1}) {
		t.Errorf("%+v", r)
	}
	s.ends(1)
}

func TestP60FallsHearing(t *testing.T) {
	t.Parallel()
	s := stageOf(t, "false", impl.PolicyAny, 1)
	s.tick(10, 3)
	for num, log := range map[int]string{-1 << 63: "", -1: "", 0: "", 1: "3", 5: "3:p 3", 6: "3:p 3;", 7: "3:p 3;", 1<<63 - 1: "3:p 3;"} {
		next, could := checkEvent(t, s.world, impl.Event{Kind: impl.WorldFallHear, At: 1, Num: num})
		if r := next.Reps[2]; !could || r.Up || r.Log != log || len(next.Radio) != 1 || len(r.Got) != 0 {
			t.Errorf("%d: %s", num, worldText(next))
		}
	}
	s.on(impl.WorldFallHear, "2 10 12 3", 6)
	s.isUnder("2 10 11 3 0 - -")
	// Who is not up hears nothing: it is taken off, and may be kept.
	s.does(true, impl.WorldFall, 11, 0)
	s.on(impl.WorldKeep, "2 10 11", 0)
	s.isUnder("2 10 11 3 0 - -")
	for _, kind := range []int{impl.WorldBring, impl.WorldFallHear, impl.WorldLose} {
		next, could := checkEvent(t, s.world, impl.Event{Kind: kind, Num: 100})
		if !could || len(next.Radio) > 0 || next.Reps[1].Log != "" || next.Reps[1].Up {
			t.Errorf("%d: %s", kind, worldText(next))
		}
	}
	s.does(true, impl.WorldRise, 11, 0)
	s.does(true, impl.WorldRise, 12, 0)
	if r := s.world.Reps[2]; r.Promise != 3 {
		t.Errorf("%+v", r)
	}
	s.ends(1)
	// An agent falls in the midst of what it takes.
	s = stageOf(t, "false", impl.PolicyAny, 1)
	s.tick(0, 1)
	s.world.Radio = []string{sealed("9 12 0 0 0 5 -")}
	for num, log := range map[int]string{-1: "", 4: "5:c ", 7: "5:c 0 5", 8: "5:c 0 5;", 100: "5:c 0 5;"} {
		given, could := checkEvent(t, s.world, impl.Event{Kind: impl.WorldFallHear, Num: num})
		if a := given.Agents[0]; !could || a.Up || a.Log != "3:i 0;3:d 0;"+log || len(given.Radio) > 0 {
			t.Errorf("%d: %s", num, worldText(given))
		}
	}
}

// Messages that are for nobody, that nobody can read, or that say what one does not take: all are taken off.
func TestP60ForNobody(t *testing.T) {
	t.Parallel()
	w := stageOf(t, "false", impl.PolicyAny, 1).world
	w.Radio = []string{sealed("9 10 1 0 0 0 -"), sealed("9 10 2 0 0 0 -"), sealed("1 1 10 0 0 0 -"), sealed("9 10 0 0 0 0 -"), sealed("9 10 3 0 0 0 -"), sealed("9 10 13 0 0 0 -"), "", "9 10 0 0 0 0 -", sealed("2 10 10 5 0 - -"), sealed("2 0 10 5 0 - -"), sealed("0 0 10 0 0 - -"), strings.Repeat("9", 400)}
	if !impl.WorldOk(w) {
		t.Fatal(worldText(w))
	}
	for at := range w.Radio {
		for kind := impl.WorldBring; kind <= impl.WorldFallHear; kind++ {
			next, could := checkEvent(t, w, impl.Event{Kind: kind, At: at, Num: 2})
			spoils := kind == impl.WorldSpoil
			if could != (!spoils || w.Radio[at] != "") {
				t.Errorf("%d %d: %v", kind, at, could)
			}
			if kept := kind == impl.WorldKeep || spoils; (len(next.Radio) == len(w.Radio)) != kept {
				t.Errorf("%d %d: %q", kind, at, next.Radio)
			}
			up := next.Agents[0].Up && next.Reps[0].Up && next.Reps[1].Up && next.Reps[2].Up
			heard := []int{2, 3, 8, 9}
			if up == (kind == impl.WorldFallHear && slices.Contains(heard, at)) {
				t.Errorf("%d %d: %s", kind, at, worldText(next))
			}
		}
	}
}

// fullRadio are so many messages that tell nothing, and one behind them.
func fullRadio(many int, last string) []string {
	return append(slices.Repeat([]string{sealed("8 11 12 0 12 - -")}, many-1), sealed(last))
}

func TestP60NoRoom(t *testing.T) {
	t.Parallel()
	base := stageOf(t, "echo a", impl.PolicyAll, 3)
	base.tick(10, 3)
	base.bring("2 10 11", "3 11 10")
	base.tick(0, 1)
	base.bring("1 0 10")
	base.world.Reps[0].Time = 3
	for room := range 7 {
		s := &stage{t: t, world: base.world}
		s.world.Radio = fullRadio(50-room, "2 10 12 3 0 - -")
		// Three reports are told, as far as there is room.
		s.tick(1, 1)
		if len(s.world.Radio) != 50-room+min(3, room) || !strings.HasSuffix(s.under(), []string{"2 10 12 3 0 - -", "1 1 10 0 0 0 -", "1 1 11 0 0 0 -", "1 1 12 0 0 0 -"}[min(3, room)]) {
			t.Errorf("%d: %s", room, s.under())
		}
		// What is brought makes room for what is told by it; what is kept does not.
		for kind, more := range map[int]int{impl.WorldBring: 1, impl.WorldKeep: 0} {
			s.world.Radio = fullRadio(50-room, "2 10 12 3 0 - -")
			s.does(true, kind, 49-room, 0)
			if told := strings.HasSuffix(s.under(), "3 12 10 3 0 - -"); told != (room+more > 0) {
				t.Errorf("%d: %s", room, s.under())
			}
			s.world.Reps[2] = impl.RepNew(12, 3)
		}
		// Beats and writes: four messages.
		s.world.Radio = fullRadio(50-room, "2 10 12 3 0 - -")
		s.tick(10, 1)
		tails := []string{"2 10 12 3 0 - -", "7 10 11 3 0 - -", "7 10 12 3 0 - -", "5 10 11 3 0 0,-1,-1 -", "5 10 12 3 0 0,-1,-1 -"}
		if len(s.world.Radio) != 50-room+min(4, room) || !strings.HasSuffix(s.under(), tails[min(4, room)]) {
			t.Errorf("%d: %s", room, s.under())
		}
		// What is decided is told to all, as far as there is room.
		s.world.Radio = fullRadio(50-room, "6 12 10 3 0 - -")
		s.does(true, impl.WorldBring, 49-room, 0)
		if len(s.world.Radio) != 49-room+min(5, room+1) || len(impl.WorldWay(s.world)) != 1 {
			t.Errorf("%d: %s", room, s.under())
		}
	}
}

func TestP60AnyWorlds(t *testing.T) {
	t.Parallel()
	dice := newDice(60)
	can, cannot, changed := map[int]int{}, map[int]int{}, map[int]int{}
	for range 600 {
		w := randomWorld(dice)
		if !checkWorld(t, w) {
			t.Fatalf("not ok: %s", worldText(w))
		}
		for range 6 {
			e := randomEvent(dice, w)
			next, could := checkEvent(t, w, e)
			if !could {
				cannot[e.Kind]++
				continue
			}
			can[e.Kind]++
			if !slices.EqualFunc(next.Agents, w.Agents, sameAgent) || !slices.EqualFunc(next.Reps, w.Reps, sameRep) {
				changed[e.Kind]++
			}
			w = next
		}
		checkWorld(t, w)
	}
	for kind := 1; kind <= 8; kind++ {
		if can[kind] < 50 || cannot[kind] < 50 || kind != impl.WorldLose && kind != impl.WorldSpoil && changed[kind] < 15 {
			t.Error(kind, can, cannot, changed)
		}
	}
}

// spoilWorld changes a part of a world, so that it is not ok, or still is.
func spoilWorld(dice *rand.Rand, w impl.World) impl.World {
	w.Agents, w.Reps = slices.Clone(w.Agents), slices.Clone(w.Reps)
	switch dice.IntN(9) {
	case 0:
		w.Code = wrongCodes()[dice.IntN(len(wrongCodes()))]
	case 1:
		w.Policy = []int{0, 4, -1, 1, 2, 3}[dice.IntN(6)]
	case 2:
		w.Agents = w.Agents[1:]
	case 3:
		w.Agents = append(w.Agents, w.Agents[0])
	case 4:
		w.Reps = slices.Delete(w.Reps, 0, 1+dice.IntN(3))
	case 5:
		w.Reps[0], w.Reps[dice.IntN(3)] = w.Reps[dice.IntN(3)], w.Reps[0]
	case 6:
		at := dice.IntN(len(w.Agents))
		w.Agents[at] = spoilAgent(dice, w.Agents[at])
	case 7:
		at := dice.IntN(3)
		w.Reps[at] = spoilRep(dice, w.Reps[at])
	case 8:
		w.Radio = append(slices.Clone(w.Radio), []string{strings.Repeat("1", 401), "", "\x00", strings.Repeat("2", 400)}[dice.IntN(4)])
	}
	return w
}

func TestWorldSpoilt(t *testing.T) {
	t.Parallel()
	dice := newDice(606)
	fine, wrong := 0, 0
	for range 800 {
		w := spoilWorld(dice, randomWorld(dice))
		if checkWorld(t, w) {
			fine++
		} else {
			wrong++
		}
		checkEvent(t, w, randomEvent(dice, w))
		checkCalm(t, w, dice.IntN(2))
	}
	if fine < 100 || wrong < 300 {
		t.Error(fine, wrong)
	}
}

func TestWorldOkParts(t *testing.T) {
	t.Parallel()
	s := stageOf(t, "echo a > f; false; cat f", impl.PolicyMost, 3)
	s.world = checkCalm(t, s.world, 4)
	s.tick(2, 1)
	s.does(true, impl.WorldFall, 1, 3)
	s.does(true, impl.WorldFall, 12, 3)
	good := s.world
	fits := func(want bool, change func(w *impl.World)) {
		t.Helper()
		w := townOf(good).World
		w.Code = slices.Clone(w.Code)
		change(&w)
		if checkWorld(t, w) != want {
			t.Errorf("%v: %s", !want, worldText(w))
		}
		checkEvent(t, w, impl.Event{Kind: impl.WorldTick})
		checkCalm(t, w, 1)
	}
	fits(true, func(w *impl.World) {})
	for _, code := range wrongCodes() {
		fits(false, func(w *impl.World) { w.Code = code })
		fits(false, func(w *impl.World) { *w = impl.World{Code: code, Policy: 1} })
	}
	fits(false, func(w *impl.World) { w.Code = codeOf(t, "echo b > f; false; cat f") })
	for policy, want := range map[int]bool{-1 << 63: false, -1: false, 0: false, 1: true, 2: true, 3: true, 4: false, 1 << 40: false} {
		fits(want, func(w *impl.World) { w.Policy = policy })
	}
	// How many agents, and how many who decide.
	fits(false, func(w *impl.World) { w.Agents = nil })
	fits(false, func(w *impl.World) { w.Agents = w.Agents[:2] })
	fits(false, func(w *impl.World) {
		w.Agents = append(w.Agents, impl.Agent{Id: 3, Up: true, Mach: impl.MachNew(w.Code)})
	})
	fits(false, func(w *impl.World) { w.Reps = nil })
	fits(false, func(w *impl.World) { w.Reps = w.Reps[:2] })
	fits(false, func(w *impl.World) { w.Reps = w.Reps[1:] })
	fits(false, func(w *impl.World) { w.Reps = append(w.Reps, impl.RepNew(12, 3)) })
	fits(false, func(w *impl.World) { w.Reps = append(w.Reps, impl.Rep{Id: 13}) })
	for many := 1; many <= 4; many++ {
		fits(many <= 3, func(w *impl.World) {
			*w = impl.World{Code: w.Code, Policy: 2}
			for id := range many {
				w.Agents = append(w.Agents, impl.Agent{Id: id})
			}
			for id := 10; id <= 12; id++ {
				w.Reps = append(w.Reps, impl.Rep{Id: id})
			}
		})
	}
	// Their numbers, and their order.
	for at := range 3 {
		other := (at + 1) % 3
		fits(false, func(w *impl.World) { w.Agents[at], w.Agents[other] = w.Agents[other], w.Agents[at] })
		fits(false, func(w *impl.World) { w.Reps[at], w.Reps[other] = w.Reps[other], w.Reps[at] })
		fits(false, func(w *impl.World) { w.Agents[at] = w.Agents[other] })
		fits(false, func(w *impl.World) { w.Reps[at] = w.Reps[other] })
		fits(false, func(w *impl.World) { w.Agents[at].Id = 3 + at })
		fits(false, func(w *impl.World) { w.Reps[at].Id = 13 - at })
		// One of them that is not ok.
		fits(false, func(w *impl.World) { w.Agents[at].Mach.Last = 5 })
		fits(false, func(w *impl.World) { w.Agents[at].Log = recordText("c 0 0") + w.Agents[at].Log })
		fits(false, func(w *impl.World) { w.Agents[at].Up = !w.Agents[at].Up })
		fits(false, func(w *impl.World) { w.Reps[at].Promise++ })
		fits(false, func(w *impl.World) { w.Reps[at].Log = recordText("k 1 0,0,0") + w.Reps[at].Log })
		fits(false, func(w *impl.World) { w.Reps[at].Up = !w.Reps[at].Up })
		fits(true, func(w *impl.World) { w.Agents[at] = impl.Agent{Id: at} })
		fits(true, func(w *impl.World) { w.Reps[at] = impl.Rep{Id: 10 + at, Log: "\x00"} })
	}
	// What is under way.
	for many, want := range map[int]bool{0: true, 1: true, 49: true, 50: true, 51: false, 200: false} {
		fits(want, func(w *impl.World) { w.Radio = slices.Repeat([]string{"\xff"}, many) })
	}
	for size, want := range map[int]bool{0: true, 1: true, 399: true, 400: true, 401: false, 10000: false} {
		for at := range 3 {
			fits(want, func(w *impl.World) {
				w.Radio = []string{"", "", ""}
				w.Radio[at] = strings.Repeat("1", size)
			})
		}
	}
	// Empty lists are none, whatever they are made of.
	fits(true, func(w *impl.World) { w.Radio = make([]string, 0, 5) })
	checkWorld(t, impl.World{})
	checkWorld(t, impl.World{Code: []impl.Op{}, Agents: []impl.Agent{}, Reps: []impl.Rep{}, Radio: []string{}})
}

func TestP62SafeParts(t *testing.T) {
	t.Parallel()
	// Agent 1 is cut off at first, and agent 2 tells nothing of that.
	s := stageOf(t, "echo a > f; false; cat f; rm f", impl.PolicyAny, 3)
	s.does(true, impl.WorldFall, 1, 6)
	s.does(true, impl.WorldRise, 1, 0)
	s.tick(10, 3)
	s.bring("2 10 11", "3 11 10")
	s.tick(0, 1)
	s.tick(1, 1)
	s.bring("1 0 10", "1 1 10")
	s.tick(10, 4)
	s.bring("5 10 11", "6 11 10")
	s.world.Radio = nil
	s.world = checkCalm(t, s.world, 4)
	s.does(true, impl.WorldFall, 2, 3)
	s.does(true, impl.WorldFall, 12, 3)
	good := s.world
	way := townOf(good).way()
	if len(way) < 3 || len(way) > 4 || numsText(way[0]) != "0,126,-1" || numsText(way[1]) != "1,1,1" || good.Agents[1].Log[:12] != "3:i 0;3:x 0;" {
		t.Fatalf("%v %s", way, worldText(good))
	}
	safe := func(want bool, change func(w *impl.World)) {
		t.Helper()
		w := townOf(good).World
		change(&w)
		if !checkWorld(t, w) || impl.WorldSafe(w) != want {
			t.Errorf("%v: %s", !want, worldText(w))
		}
	}
	// replaced has another record in the place of one, and is up, or not.
	replaced := func(log string, from string, to string) string {
		if !strings.Contains(log, recordText(from)) {
			t.Fatalf("%q is not in %q", from, log)
		}
		return strings.Replace(log, recordText(from), recordText(to), 1)
	}
	agent := func(w *impl.World, id int, from string, to string) {
		w.Agents[id] = impl.Agent{Id: id, Log: replaced(w.Agents[id].Log, from, to)}
	}
	rep := func(w *impl.World, id int, from string, to string) {
		w.Reps[id-10] = impl.Rep{Id: id, Log: replaced(w.Reps[id-10].Log, from, to)}
	}
	safe(true, func(w *impl.World) {})
	for id := 10; id <= 12; id++ {
		// What one knows is not what the others know.
		safe(false, func(w *impl.World) { rep(w, id, "k 0 0,126,-1", "k 0 0,126,5") })
		safe(false, func(w *impl.World) { rep(w, id, "k 1 1,1,1", "k 1 1,1,-1") })
		// Who knows less goes the same way.
		safe(true, func(w *impl.World) { w.Reps[id-10] = impl.Rep{Id: id} })
		safe(true, func(w *impl.World) { w.Reps[id-10] = impl.Rep{Id: id, Log: recordText("k 0 0,126,-1") + "7:k 1"} })
		safe(false, func(w *impl.World) { w.Reps[id-10] = impl.Rep{Id: id, Log: recordText("k 0 0,126,0")} })
	}
	// All know what an agent did not tell.
	all := func(from string, to string) func(w *impl.World) {
		return func(w *impl.World) {
			for id := 10; id <= 12; id++ {
				rep(w, id, from, to)
			}
		}
	}
	safe(false, all("k 0 0,126,-1", "k 0 1,126,-1"))
	safe(false, all("k 0 0,126,-1", "k 0 0,0,-1"))
	safe(false, all("k 0 0,126,-1", "k 0 0,126,1"))
	safe(true, all("k 0 0,126,-1", "k 0 0,126,0"))
	safe(true, all("k 0 0,126,-1", "k 0 0,-1,-1"))
	safe(false, all("k 1 1,1,1", "k 1 -1,-1,-1"))
	safe(true, all("k 1 1,1,1", "k 1 1,-1,-1"))
	safe(true, all("k 1 1,1,1", "k 1 -1,-1,1"))
	// An agent did less than is decided: its vote may not be there.
	for id := range 3 {
		safe(false, func(w *impl.World) { w.Agents[id] = impl.Agent{Id: id} })
		safe(id == 2, func(w *impl.World) {
			w.Agents[id] = impl.Agent{Id: id}
			for inst, votes := range way[1:] {
				ahead := fmt.Sprint("k ", 1+inst, " ")
				all(ahead+numsText(votes), ahead+numsText(append(slices.Clone(votes[:2]), -1)))(w)
			}
		})
		// It took what was not decided.
		safe(false, func(w *impl.World) { agent(w, id, "c 0 0", "c 0 126") })
		safe(false, func(w *impl.World) { agent(w, id, "c 1 1", "c 1 0") })
	}
	// It took more than was decided; it may have done one more. What it began alone is cut off as it rises.
	one := []string{"i 0", "d 0", "c 0 0", "i 1", "d 1", "c 1 1", "i 2", "d 2", "c 2 0", "i 3", "d 3", "c 3 0"}
	for took := range 13 {
		w := impl.WorldNew(good.Code, impl.PolicyAll, 1)
		w.Agents[0] = impl.AgentRise(w.Code, impl.Agent{Log: logText(one[:took]...)})
		w.Reps[1] = impl.RepRise(1, impl.Rep{Id: 11, Log: logText("k 0 0", "k 1 1")})
		if !checkWorld(t, w) || impl.WorldSafe(w) != (took >= 5 && took < 9) {
			t.Errorf("%d: %s", took, worldText(w))
		}
	}
	// What can't be read of a log tells nothing.
	safe(true, func(w *impl.World) { w.Reps[2].Log += "8:k 3 5,5,5" })
	safe(true, func(w *impl.World) { w.Agents[2].Log += "5:c 3 5" })
}
