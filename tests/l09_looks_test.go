package tests

import (
	"fmt"
	"math"
	"slices"
	"testing"

	"loop.example/g00808/impl"
)

const manyLooks = 100

func pauses() []int { return []int{0, 1, 2, 5, 30, longSpan - 1, longSpan} }

// askHerd checks one answer, that it is given again, and that the herd stays as
// it was.
func askHerd(t *testing.T, name string, h impl.Herd, want int, call func(impl.Herd) int) {
	t.Helper()
	given := roomyHerd(h)
	before := roomTextOfHerd(given)
	if got := call(given); got != want {
		t.Errorf("%s of %+v is %d, want %d", name, h, got, want)
	}
	if again := call(given); again != want {
		t.Errorf("%s of %+v is %d the second time, want %d", name, h, again, want)
	}
	if after := roomTextOfHerd(given); after != before {
		t.Errorf("%s makes the herd %s %s", name, before, after)
	}
}

func askHeld(t *testing.T, h impl.Herd, want int) {
	t.Helper()
	askHerd(t, "HeldBack", h, want, impl.HeldBack)
}

func askRest(t *testing.T, h impl.Herd, each int, want int) {
	t.Helper()
	askHerd(t, fmt.Sprintf("LooksToRest each %d", each), h, want, func(h impl.Herd) int { return impl.LooksToRest(h, each) })
}

// measured is the busy herd where each of the two pods uses that much.
func measured(size int) impl.Herd {
	return with(busyHerd(), storing(oneSample("p1", 10, size), oneSample("p2", 10, size)))
}

func TestHeldBack(t *testing.T) {
	behave := func(b impl.Behave) func(*impl.Herd) { return func(h *impl.Herd) { h.Setup.Behave = b } }
	for _, c := range []struct {
		size, count int
		change      func(*impl.Herd)
		want        int
	}{
		// The law is 4, and the look writes it or changes nothing.
		{2000, 2, nil, 0}, {2000, 3, nil, 0}, {2000, 4, nil, 0}, {2000, 5, nil, 0}, {2000, 1, behave(impl.Behave{Max: manyCount}), 0}, {2000, 900, behave(impl.Behave{Max: manyCount}), 0}, {1000, 2, nil, 0}, {1099, 2, nil, 0},
		// A policy lets the count rise by less.
		{2000, 1, nil, 2}, {2000, 1, behave(impl.Behave{Up: sideWith(0, 0, byPods(1, 5)), Max: 10}), 2}, {2000, 1, behave(impl.Behave{Up: sideWith(0, 0, byPods(2, 5)), Max: 10}), 1}, {2000, 1, behave(impl.Behave{Up: sideWith(1, 0, byPods(2, 5), byPods(1, 5)), Max: 10}), 2}, {2000, 2, func(h *impl.Herd) { h.Moves = []impl.Move{move(9, 1)} }, 2}, {2000, 2, behave(impl.Behave{Up: sideWith(2, 0), Max: 10}), 2},
		// A window lets it rise by less.
		{2000, 2, func(h *impl.Herd) { h.Notes, h.Setup.Behave.Up.Window = []impl.Note{note(5, 3)}, 6 }, 1}, {2000, 2, func(h *impl.Herd) { h.Notes, h.Setup.Behave.Up.Window = []impl.Note{note(5, 2)}, 6 }, 2}, {2000, 2, func(h *impl.Herd) { h.Notes, h.Setup.Behave.Up.Window = []impl.Note{note(5, 2)}, 5 }, 0},
		// Max holds it back, and Min drives it beyond the law.
		{2000, 2, behave(impl.Behave{Max: 3}), 1}, {2000, 2, behave(impl.Behave{Max: 2}), 2}, {2000, 2, behave(impl.Behave{Min: 6, Max: 9}), -2}, {2000, 4, behave(impl.Behave{Min: 6, Max: 9}), -2}, {6000, 2, nil, 8}, {6000, 11, nil, 2}, {manyCount * 1000, 2, nil, manyCount - 4},
		// Decreases are held back as well.
		{0, 9, nil, -4}, {0, 8, nil, -4}, {0, 9, behave(impl.Behave{Down: sideWith(0, 0, byPods(2, 5)), Max: 10}), -7}, {0, 9, behave(impl.Behave{Down: sideWith(2, 0), Max: 10}), -9}, {0, 9, behave(impl.Behave{Max: 10}), 0}, {0, 9, behave(impl.Behave{Min: 3, Max: 10}), -3}, {500, 9, nil, -3},
		{0, 9, func(h *impl.Herd) { h.Notes = []impl.Note{note(5, 7)} }, -7}, {0, 9, func(h *impl.Herd) { h.Notes = []impl.Note{note(5, 9)} }, -9}, {0, 9, func(h *impl.Herd) { h.Now, h.Notes = 25, []impl.Note{note(5, 9)} }, -4},
	} {
		h := with(measured(c.size), c.change)
		h.Count = c.count
		for _, faults := range []int{0, 1, 2, manyFaults} {
			h.Faults = faults
			askHeld(t, h, c.want)
		}
	}
}

func TestHeldBackOfSeveralGoals(t *testing.T) {
	four, six, none := cpu(1000, 100), impl.Goal{Metric: "ram", Target: 1000, Tol: 100}, impl.Goal{Metric: "io", Target: 1000, Tol: 100}
	for _, faults := range []int{0, 1} {
		for _, c := range []struct {
			goals       []impl.Goal
			count, want int
		}{{[]impl.Goal{four, six}, 2, 2}, {[]impl.Goal{none, six}, 2, 2}, {[]impl.Goal{none, six}, 3, 0}, {[]impl.Goal{none}, 2, 0}, {[]impl.Goal{none, cpu(8000, 0)}, 4, 0}, {[]impl.Goal{cpu(8000, 0)}, 9, -3}} {
			h := goalsWith(c.goals...)
			h.Count, h.Faults = c.count, faults
			askHeld(t, h, c.want)
		}
	}
}

// lawless are herds whose look decides nothing, whatever faults are left.
func lawless() []impl.Herd {
	var list []impl.Herd
	for _, change := range []func(*impl.Herd){
		func(h *impl.Herd) { h.Count = 0 },
		func(h *impl.Herd) { h.Count, h.Store = 0, nil },
		func(h *impl.Herd) { h.Store = nil },
		func(h *impl.Herd) { h.Pods = nil },
		func(h *impl.Herd) { h.Now = 41 },
		func(h *impl.Herd) { h.Count, h.Pods = 900, nil },
		func(h *impl.Herd) { h.Setup.Behave.Min, h.Pods = 5, nil },
		func(h *impl.Herd) { h.Setup.Behave.Min, h.Count = 5, 0 },
	} {
		for _, faults := range []int{0, 1, manyFaults} {
			for _, cond := range conds() {
				h := with(busyHerd(), change)
				h.Faults, h.Cond = faults, cond
				list = append(list, h)
			}
		}
	}
	return list
}

func TestHerdsWithoutALaw(t *testing.T) {
	for _, h := range lawless() {
		askHeld(t, h, 0)
		for _, each := range pauses() {
			askRest(t, h, each, 0)
		}
	}
}

func TestInvalidHerdsTellNothing(t *testing.T) {
	for _, h := range badHerds() {
		askHeld(t, h, 0)
		for _, each := range append([]int{0, 1, longSpan}, notWindows()...) {
			askRest(t, h, each, -1)
		}
	}
}

func TestLooksToRest(t *testing.T) {
	steady := func(h *impl.Herd) { h.Count = 4 }
	slowly := func(h *impl.Herd) {
		h.Count, h.Setup.Behave = 1, impl.Behave{Up: sideWith(0, 0, byPods(1, 5)), Max: 10}
	}
	for _, c := range []struct {
		change     func(*impl.Herd)
		each, want int
	}{
		{nil, 0, 1}, {nil, 1, 1}, {nil, longSpan, 1}, {steady, 0, 0}, {steady, 1, 0}, {steady, longSpan, 0},
		// The rate of 1 in 5 ticks: a look that comes too early rests.
		{slowly, 0, 1}, {slowly, 1, 1}, {slowly, 4, 1}, {slowly, 5, 3}, {slowly, 6, 3}, {slowly, 10, 3},
		// The samples are fresh until 40.
		{slowly, 15, 3}, {slowly, 16, 2}, {slowly, 30, 2}, {slowly, 31, 1}, {slowly, longSpan, 1},
		// A window holds the first increase back, so that there is none.
		{func(h *impl.Herd) { h.Setup.Behave.Up.Window, h.Notes = 9, []impl.Note{note(8, 2)} }, 5, 0},
		{func(h *impl.Herd) { h.Setup.Behave.Up.Window, h.Notes = 9, []impl.Note{note(8, 3)} }, 5, 1},
		{func(h *impl.Herd) { h.Setup.Behave.Up.Window, h.Notes = 9, []impl.Note{note(6, 3), note(8, 3)} }, 9, 2},
		// Several ticks at once stop at the last tick.
		{func(h *impl.Herd) {
			slowly(h)
			h.Now, h.Store = lastTick-12, []impl.Series{oneSample("p1", lastTick-12, 2000), oneSample("p2", lastTick-12, 2000)}
		}, 5, 3},
		{func(h *impl.Herd) {
			slowly(h)
			h.Now, h.Store = lastTick-6, []impl.Series{oneSample("p1", lastTick-6, 2000), oneSample("p2", lastTick-6, 2000)}
		}, 5, 2},
		{func(h *impl.Herd) {
			slowly(h)
			h.Now, h.Store = lastTick, []impl.Series{oneSample("p1", lastTick, 2000), oneSample("p2", lastTick, 2000)}
		}, 5, 1},
	} {
		h := with(busyHerd(), c.change)
		askRest(t, h, c.each, c.want)
		for _, each := range notWindows() {
			askRest(t, h, each, -1)
		}
	}
}

// Each write that fails takes a look, and the next look tries again.
func TestLooksToRestWithFaults(t *testing.T) {
	for faults := range manyFaults + 1 {
		for _, each := range []int{0, 1, 2} {
			h := with(busyHerd(), func(h *impl.Herd) { h.Faults = faults })
			askRest(t, h, each, faults+1)
			h.Count = 4
			askRest(t, h, each, 0)
		}
	}
	// The first look after the samples have become too old fails no more.
	h := with(busyHerd(), func(h *impl.Herd) { h.Faults = manyFaults })
	askRest(t, h, 6, 6)
	askRest(t, h, 30, 2)
	askRest(t, h, longSpan, 1)
}

// climbing moves by 1 a tick, from count to most.
func climbing(count int, most int) impl.Herd {
	return with(measured(manyCount*1000), func(h *impl.Herd) {
		h.Count, h.Setup.Rules.Fresh = count, longRule
		h.Setup.Behave = impl.Behave{Up: sideWith(0, 0, byPods(1, 1)), Max: most}
	})
}

func falling(count int, least int) impl.Herd {
	return with(measured(0), func(h *impl.Herd) {
		h.Count, h.Setup.Rules.Fresh = count, longRule
		h.Setup.Behave = impl.Behave{Down: sideWith(0, 0, byPods(1, 1)), Min: least, Max: manyCount}
	})
}

func TestManyLooksToRest(t *testing.T) {
	for _, n := range []int{0, 1, 2, 3, 50, manyLooks - 1, manyLooks, manyLooks + 1, manyLooks + 2, 2 * manyLooks} {
		want := n
		if n > manyLooks {
			want = -1
		}
		askRest(t, climbing(1, n+1), 1, want)
		askRest(t, climbing(700, n+700), 2, want)
		askRest(t, falling(n+1, 1), 1, want)
		askRest(t, falling(n, 0), 1, want)
		for _, faults := range []int{1, 7, manyFaults} {
			if n < faults+1 {
				continue
			}
			askRest(t, with(climbing(1, n-faults+1), func(h *impl.Herd) { h.Faults = faults }), 1, want)
			askRest(t, with(falling(n-faults, 0), func(h *impl.Herd) { h.Faults = faults }), 1, want)
		}
		// Without a tick the rate is used up, and after a long one the samples are old.
		askRest(t, climbing(1, n+1), 0, min(n, 1))
		askRest(t, climbing(1, n+1), 100, min(n, 11))
		askRest(t, climbing(1, n+1), longSpan, min(n, 2))
		askRest(t, climbing(1, n+1), longSpan+1, -1)
		askRest(t, climbing(1, n+1), -1, -1)
	}
}

func heldByRule(h impl.Herd) int {
	law, next := lawByRule(h), copiedHerd(h)
	events, _ := lookByRule(&next)
	switch {
	case law < 0:
		return 0
	case len(events) == 1 && events[0].Kind == 2:
		return law - events[0].B
	}
	return law - next.Count
}

func restByRule(before impl.Herd, each int) int {
	h := copiedHerd(before)
	for looks := 0; looks <= manyLooks; looks++ {
		events, code := lookByRule(&h)
		if code == impl.OpIdle && len(events) == 0 {
			return looks
		}
		h.Now = min(h.Now+each, lastTick)
	}
	return -1
}

func TestHerdsOfScriptsFollowTheRule(t *testing.T) {
	held, rests := map[int]int{}, map[int]int{}
	for seed := 1200; seed < 1230; seed++ {
		h := impl.Herd{Setup: scriptSetups()[seed%5], Count: 4}
		for i, op := range scriptOf(seed) {
			h, _, _ = impl.StepHerd(h, op)
			want := heldByRule(h)
			askHeld(t, h, want)
			held[min(max(want, -1), 1)]++
			each := pauses()[i%len(pauses())]
			rest := restByRule(h, each)
			askRest(t, h, each, rest)
			rests[rest]++
		}
	}
	if held[-1] < 100 || held[0] < 100 || held[1] < 100 || rests[0] < 100 || rests[1] < 100 || rests[2] < 20 || rests[3] < 20 {
		t.Errorf("held back %v, rested after %v", held, rests)
	}
}

// checkTold is promise 8: the functions of event lists agree that the writes are
// consecutive and lead to the count.
func checkTold(t *testing.T, name string, count int, h impl.Herd, events []impl.Event) {
	t.Helper()
	writes := len(kindsOnly(events, 1, 4))
	if !impl.HerdOk(h) || !impl.WritesChain(count, events) || impl.CountAfter(count, events) != h.Count || h.Rev != writes {
		t.Errorf("%s from %d leads to %+v by %v", name, count, h, events)
	}
	if impl.WritesChain(count+1, events) != (writes == 0) {
		t.Errorf("%s chains from %d and from %d", name, count, count+1)
	}
}

// Promise 8.
func TestWritesOfScriptsChain(t *testing.T) {
	written, unwritten := 0, 0
	for seed := 2000; seed < 2100; seed++ {
		setup, count := scriptSetups()[seed%5], []int{2, 0, 5, 1, manyCount, 9}[seed%6]
		ops := scriptOf(seed)[:[]int{manyOps, 0, 1, 5, 90}[seed/5%5]]
		h, events, _, ok := impl.PlayHerd(setup, count, ops)
		if !ok {
			t.Fatalf("script %d is refused", seed)
		}
		checkTold(t, fmt.Sprintf("script %d", seed), count, h, events)
		if h.Rev > 0 {
			written++
		} else {
			unwritten++
		}
		h, told := impl.Herd{Setup: setup, Count: count}, []impl.Event(nil)
		for _, op := range ops {
			next, more, _ := impl.StepHerd(h, op)
			told = append(told, more...)
			checkTold(t, fmt.Sprintf("a beginning of script %d", seed), count, next, told)
			if op.Kind != kindLook && op.Kind != kindHands && (next.Count != h.Count || impl.CountAfter(-5, more) != -5) {
				t.Errorf("%s changes %+v to %+v by %v", nameOf(op), h, next, more)
			}
			h = next
		}
		if !slices.Equal(told, events) {
			t.Errorf("script %d tells %v, its steps %v", seed, events, told)
		}
	}
	if written < 20 || unwritten < 20 {
		t.Errorf("%d scripts write, %d do not", written, unwritten)
	}
}

// scriptWithout has looks in place of the operations of some kinds.
func scriptWithout(seed int, kinds ...int) []impl.Op {
	ops := scriptOf(seed)
	for i, op := range ops {
		if slices.Contains(kinds, op.Kind) {
			ops[i] = lookOp()
		}
	}
	return ops
}

func withSelect(s impl.Setup, up int, down int, least int, most int) impl.Setup {
	s = copiedSetup(s)
	s.Behave.Up.Select, s.Behave.Down.Select = up, down
	s.Behave.Min, s.Behave.Max = least, most
	return s
}

// limitsOfCounts allow all counts, or force some moves.
func limitsOfCounts() [][2]int { return [][2]int{{0, manyCount}, {2, 9}, {5, 5}, {1, 20}} }

// checkUnforced is promise 10 for one script: a move in a direction that is not
// selected starts beyond a limit of the counts and ends at it. It returns how
// many there are.
func checkUnforced(t *testing.T, b impl.Behave, events []impl.Event) int {
	t.Helper()
	forced := 0
	for _, m := range kindsOnly(events, 1) {
		up, down := m.B > m.A && b.Up.Select == 2, m.B < m.A && b.Down.Select == 2
		if up && (m.A >= b.Min || m.B != b.Min) || down && (m.A <= b.Max || m.B != b.Max) {
			t.Errorf("%+v under %+v", m, b)
		}
		if up || down {
			forced++
		}
	}
	return forced
}

// Promise 10.
func TestNothingMovesInADirectionThatIsNotSelected(t *testing.T) {
	seen := map[string]int{}
	for seed := 3000; seed < 3120; seed++ {
		count := []int{2, 5, 9, 0, 30, 700}[seed%6]
		for _, limits := range limitsOfCounts() {
			for _, choices := range [][2]int{{2, 0}, {0, 2}, {2, 2}, {2, 1}, {1, 2}, {0, 0}} {
				setup := withSelect(scriptSetups()[seed%5], choices[0], choices[1], limits[0], limits[1])
				_, events, _, ok := impl.PlayHerd(setup, count, scriptWithout(seed, kindSetup))
				free := limits == [2]int{0, manyCount}
				forced := checkUnforced(t, setup.Behave, events)
				if !ok || !impl.MovesWithin(events, limits[0], limits[1]) || free && forced > 0 {
					t.Errorf("script %d under %+v: %v, %v", seed, setup, ok, events)
				}
				if free && (choices[0] == 2 && !impl.NeverRose(events) || choices[1] == 2 && !impl.NeverFell(events)) {
					t.Errorf("script %d under %+v moves by %v", seed, setup, events)
				}
				if forced > 0 {
					seen["forced"]++
				}
				seen[fmt.Sprint("rose with ", choices[0] == 2, " ", !impl.NeverRose(events))]++
				seen[fmt.Sprint("fell with ", choices[1] == 2, " ", !impl.NeverFell(events))]++
			}
		}
	}
	for _, key := range []string{"forced", "rose with true false", "fell with true false", "rose with false true", "fell with false true", "rose with true true", "fell with true true"} {
		if seen[key] < 30 {
			t.Errorf("%s came %d times of %v", key, seen[key], seen)
		}
	}
}

// Within Min and Max nothing is forced, unless an override leaves them.
func TestCountsWithinTheirLimitsAreNotForced(t *testing.T) {
	moved := 0
	for seed := 3200; seed < 3300; seed++ {
		for _, limits := range limitsOfCounts() {
			count := max(limits[0], 5)
			for _, choices := range [][2]int{{2, 0}, {0, 2}, {2, 2}} {
				setup := withSelect(scriptSetups()[seed%5], choices[0], choices[1], limits[0], limits[1])
				_, events, _, _ := impl.PlayHerd(setup, count, scriptWithout(seed, kindSetup, kindHands))
				if choices[0] == 2 && (!impl.NeverRose(events) || impl.RoseBetween(events, -1, lastTick) != 0) || choices[1] == 2 && (!impl.NeverFell(events) || impl.FellBetween(events, -1, lastTick) != 0) {
					t.Errorf("script %d under %+v moves by %v", seed, setup, events)
				}
				if choices[0]+choices[1] == 4 && impl.FirstMove(events) != -1 {
					t.Errorf("script %d under %+v moves by %v", seed, setup, events)
				}
				if impl.FirstMove(events) >= 0 {
					moved++
				}
			}
		}
	}
	if moved < 50 {
		t.Errorf("only %d scripts move", moved)
	}
}

// diary has the count at the end of each tick of a script.
type diary struct {
	ticks  []int
	counts map[int]int
	events []impl.Event
}

func diaryOf(s impl.Setup, count int, ops []impl.Op) diary {
	h := impl.Herd{Setup: s, Count: count}
	d := diary{[]int{-1}, map[int]int{-1: count}, nil}
	for _, op := range ops {
		next, more, _ := impl.StepHerd(h, op)
		h, d.events = next, append(d.events, more...)
		if h.Now != d.ticks[len(d.ticks)-1] {
			d.ticks = append(d.ticks, h.Now)
		}
		d.counts[h.Now] = h.Count
	}
	return d
}

// checkSums is promise 11 between two ticks. It returns whether anything moved,
// and what the overrides between them add.
func (d diary) checkSums(t *testing.T, from int, to int) (bool, int) {
	t.Helper()
	by := 0
	for _, e := range kindsOnly(d.events, 4) {
		if e.At > from && e.At <= to {
			by += e.B - e.A
		}
	}
	rose, fell := impl.RoseBetween(d.events, from, to), impl.FellBetween(d.events, from, to)
	if rose < 0 || fell < 0 || rose-fell != d.counts[to]-d.counts[from]-by {
		t.Errorf("between %d and %d the count rose by %d, fell by %d and was overridden by %d, from %d to %d", from, to, rose, fell, by, d.counts[from], d.counts[to])
	}
	return rose+fell > 0, by
}

// Promise 11.
func TestIncreasesAndDecreasesAddUp(t *testing.T) {
	moves, overrides := 0, 0
	for seed := 4000; seed < 4060; seed++ {
		ops := scriptOf(seed)
		if seed%2 == 0 {
			ops = scriptWithout(seed, kindHands)
		}
		d := diaryOf(scriptSetups()[seed%5], []int{2, 5, 40}[seed%3], ops)
		last := d.ticks[len(d.ticks)-1]
		for i, from := range d.ticks {
			for _, to := range d.ticks[i:] {
				moved, by := d.checkSums(t, from, to)
				if moved && by == 0 {
					moves++
				}
				if by != 0 {
					overrides++
				}
			}
			rose, fell := impl.RoseBetween(d.events, -1, from)+impl.RoseBetween(d.events, from, last), impl.FellBetween(d.events, -1, from)+impl.FellBetween(d.events, from, last)
			if rose != impl.RoseBetween(d.events, math.MinInt, math.MaxInt) || fell != impl.FellBetween(d.events, math.MinInt, math.MaxInt) {
				t.Errorf("script %d: at %d the parts do not add up", seed, from)
			}
		}
	}
	if moves < 1000 || overrides < 1000 {
		t.Errorf("%d times something moved, %d times overrides did", moves, overrides)
	}
}

// The document's example of a herd, as the stories tell it.
func TestStoryOfTheDocument(t *testing.T) {
	ops := []impl.Op{podsOp(readyAt("p1", 0), readyAt("p2", 0)), tickOp(10), scrapeOp("p1 cpu 2 10\np2 cpu 2 10\n"), lookOp(), lookOp(), faultsOp(1), handsOp(2), tickOp(20), scrapeOp("p1 cpu 2 30\np2 cpu 2 30\n"), lookOp(), {Kind: 9}}
	h, events, _, _ := impl.PlayHerd(impl.DefaultSetup(), 2, ops)
	checkTold(t, "the example", 2, h, events)
	if got := answersOf(2, events, -1, 50, 9); got != (answers{2, true, true, 2, 0, 0, 10, true, false}) {
		t.Errorf("the example tells %+v", got)
	}
	askHeld(t, h, 0)
	askRest(t, h, 0, 1)
	if looks := impl.OpsOf(ops, kindLook); looks != 3 {
		t.Errorf("it has %d looks", looks)
	}
}
