package tests

import (
	"fmt"
	"math"
	"slices"
	"testing"

	"loop.example/g00808/impl"
)

const (
	manyPolicies = 3
	longLog      = 200
	longSpan     = 1000
)

func TestLimitsOfBehavior(t *testing.T) {
	if impl.MaxPolicies != manyPolicies || impl.MaxLog != longLog {
		t.Errorf("limits %d and %d", impl.MaxPolicies, impl.MaxLog)
	}
}

func byPods(n int, period int) impl.Policy { return impl.Policy{Kind: 0, Value: n, Period: period} }

func byPercent(n int, period int) impl.Policy { return impl.Policy{Kind: 1, Value: n, Period: period} }

func sideWith(choice int, window int, policies ...impl.Policy) impl.Side {
	return impl.Side{Policies: policies, Select: choice, Window: window}
}

func choices() []int { return []int{0, 1, 2} }

func notChoices() []int { return []int{math.MinInt, -2, -1, 3, 4, 256, 1 << 32, math.MaxInt} }

func windows() []int { return []int{0, 1, 2, 15, longSpan - 1, longSpan} }

func notWindows() []int {
	return []int{math.MinInt, math.MinInt + 1, -longSpan, -1, longSpan + 1, limit, 1<<32 + 1, math.MaxInt - 1, math.MaxInt}
}

func goodPolicies() []impl.Policy {
	var list []impl.Policy
	for _, kind := range []int{0, 1} {
		for _, n := range []int{1, 2, 50, 99, 100, 101, manyCount - 1, manyCount} {
			for _, period := range []int{1, 2, 30, longSpan - 1, longSpan} {
				list = append(list, impl.Policy{Kind: kind, Value: n, Period: period})
			}
		}
	}
	return list
}

// badPolicies each have one field that is not valid, but for the zero value.
func badPolicies() []impl.Policy {
	list := []impl.Policy{{}}
	for _, kind := range []int{math.MinInt, -2, -1, 2, 3, 256, 1 << 32, math.MaxInt} {
		list = append(list, impl.Policy{Kind: kind, Value: 2, Period: 10})
	}
	for _, kind := range []int{0, 1} {
		for _, n := range []int{math.MinInt, -manyCount, -1, 0, manyCount + 1, limit, 1<<32 + 1, math.MaxInt} {
			list = append(list, impl.Policy{Kind: kind, Value: n, Period: 10})
		}
		for _, period := range append(notWindows(), 0) {
			list = append(list, impl.Policy{Kind: kind, Value: 2, Period: period})
		}
	}
	return list
}

// goodSides have each limit beside ordinary fields.
func goodSides() []impl.Side {
	list := []impl.Side{{}, {Policies: []impl.Policy{}}}
	for _, choice := range choices() {
		for _, window := range windows() {
			for n := range manyPolicies + 1 {
				list = append(list, sideWith(choice, window, slices.Repeat([]impl.Policy{byPods(2, 10)}, n)...))
			}
		}
		for _, p := range goodPolicies() {
			list = append(list, sideWith(choice, 5, p), sideWith(choice, 5, byPercent(50, 10), p), sideWith(choice, 5, p, byPods(1, 1), p))
		}
	}
	return list
}

// badSides each break one condition.
func badSides() []impl.Side {
	var list []impl.Side
	for _, choice := range notChoices() {
		list = append(list, sideWith(choice, 0), sideWith(choice, 5, byPods(2, 10)))
	}
	for _, window := range notWindows() {
		list = append(list, sideWith(0, window), sideWith(1, window, byPods(2, 10)), sideWith(2, window, byPercent(50, 10)))
	}
	for _, choice := range choices() {
		for _, n := range []int{manyPolicies + 1, manyPolicies + 2, 100} {
			list = append(list, sideWith(choice, 0, slices.Repeat([]impl.Policy{byPods(2, 10)}, n)...))
		}
		for _, p := range badPolicies() {
			list = append(list, sideWith(choice, 0, p), sideWith(choice, 0, p, byPods(2, 10), byPods(2, 10)))
			list = append(list, sideWith(choice, 0, byPods(2, 10), p), sideWith(choice, 0, byPods(2, 10), p, byPods(2, 10)), sideWith(choice, 0, byPods(2, 10), byPods(2, 10), p))
		}
	}
	return list
}

func TestSideOk(t *testing.T) {
	for _, s := range goodSides() {
		if !impl.SideOk(s) {
			t.Errorf("SideOk(%+v) is false", s)
		}
	}
	for _, s := range badSides() {
		if impl.SideOk(s) {
			t.Errorf("SideOk(%+v) is true", s)
		}
	}
}

func usualUp() impl.Side { return sideWith(0, 0, byPods(2, 10)) }

func usualDown() impl.Side { return sideWith(0, 20, byPercent(50, 10)) }

// usualBehave is that of the document's examples.
func usualBehave() impl.Behave {
	return impl.Behave{Up: usualUp(), Down: usualDown(), Min: 1, Max: 10}
}

func goodBehaves() []impl.Behave {
	list := []impl.Behave{{}, usualBehave()}
	for _, s := range goodSides() {
		list = append(list, impl.Behave{Up: s, Down: usualDown(), Min: 1, Max: 10}, impl.Behave{Up: usualUp(), Down: s, Min: 1, Max: 10}, impl.Behave{Up: s, Down: s, Max: manyCount})
	}
	for _, c := range [][2]int{{0, 0}, {0, 1}, {0, manyCount}, {1, 1}, {1, 2}, {7, 7}, {5, 900}, {manyCount - 1, manyCount}, {manyCount, manyCount}} {
		list = append(list, impl.Behave{Up: usualUp(), Down: usualDown(), Min: c[0], Max: c[1]})
	}
	return list
}

// badBehaves each break one condition; the others hold.
func badBehaves() []impl.Behave {
	var list []impl.Behave
	for _, s := range badSides() {
		list = append(list, impl.Behave{Up: s, Down: usualDown(), Min: 1, Max: 10}, impl.Behave{Up: usualUp(), Down: s, Min: 1, Max: 10})
	}
	for _, c := range [][2]int{{1, 0}, {2, 1}, {10, 1}, {manyCount, manyCount - 1}, {manyCount, 0}, {-1, 10}, {-1, 0}, {-1, -1}, {0, -1}, {1, manyCount + 1}, {manyCount + 1, manyCount + 1}, {manyCount + 1, manyCount}, {math.MinInt, 10}, {math.MinInt, math.MinInt}, {1, math.MaxInt}, {math.MaxInt, math.MaxInt}, {math.MaxInt, math.MinInt}, {1, 1<<32 + 5}, {1 << 32, 10}} {
		list = append(list, impl.Behave{Up: usualUp(), Down: usualDown(), Min: c[0], Max: c[1]})
	}
	return list
}

func TestBehaveOk(t *testing.T) {
	for _, b := range goodBehaves() {
		if !impl.BehaveOk(b) {
			t.Errorf("BehaveOk(%+v) is false", b)
		}
	}
	for _, b := range badBehaves() {
		if impl.BehaveOk(b) {
			t.Errorf("BehaveOk(%+v) is true", b)
		}
	}
}

// ticksUpTo are n ascending ticks, each step after the previous one.
func ticksUpTo(n int, step int, last int) []int {
	list := make([]int, n)
	for i := range list {
		list[i] = last - (n-1-i)*step
	}
	return list
}

func goodTickLists() [][]int {
	list := [][]int{nil, {}, {3, 3}, {3, 4}, {0, 0, 0}, {0, lastTick}, {lastTick, lastTick}, {1, 1, 2, 2, 9}, filled(longLog, 0), filled(longLog, 7), filled(longLog, lastTick)}
	for _, at := range goodTicks() {
		list = append(list, []int{at})
	}
	for _, n := range []int{2, longLog - 1, longLog} {
		list = append(list, ticksUpTo(n, 1, n), ticksUpTo(n, 5, lastTick), ticksUpTo(n, 1, n-1))
	}
	return list
}

// noTickLists each have one tick that is not valid or not in its place, or one tick too many.
func noTickLists() [][]int {
	list := [][]int{{4, 3}, {1, 0}, {lastTick, 0}, {lastTick, lastTick - 1}, {1, 5, 4}, {5, 1, 2}, {5, 5, 4}, {3, 2, 1}, {2, 5, 3, 6}}
	for _, n := range []int{longLog + 1, longLog + 2, 5 * longLog} {
		list = append(list, filled(n, 7), ticksUpTo(n, 1, n), ticksUpTo(n, 1, lastTick))
	}
	for _, n := range []int{2, 3, longLog} {
		first, last, down := ticksUpTo(n, 1, 300), ticksUpTo(n, 1, 300), ticksUpTo(n, 1, 300)
		first[0] = 302
		last[n-1] = last[n-2] - 1
		slices.Reverse(down)
		list = append(list, first, last, down)
	}
	for _, at := range notTicks() {
		list = append(list, []int{at}, []int{at, 7}, []int{7, at}, []int{7, at, 8}, []int{at, at}, append(filled(longLog-1, 7), at))
	}
	return list
}

func notesAt(ticks []int, count int) []impl.Note {
	var list []impl.Note
	for _, at := range ticks {
		list = append(list, impl.Note{At: at, Count: count})
	}
	return list
}

func movesAt(ticks []int, by int) []impl.Move {
	var list []impl.Move
	for _, at := range ticks {
		list = append(list, impl.Move{At: at, By: by})
	}
	return list
}

func goodNotes() [][]impl.Note {
	list := [][]impl.Note{{}}
	for _, ticks := range goodTickLists() {
		list = append(list, notesAt(ticks, 3))
	}
	for _, count := range counts() {
		list = append(list, notesAt([]int{7}, count), notesAt(filled(longLog, 7), count))
	}
	return list
}

func noNotes() [][]impl.Note {
	var list [][]impl.Note
	for _, ticks := range noTickLists() {
		list = append(list, notesAt(ticks, 3))
	}
	for _, count := range notCounts() {
		for _, place := range []int{0, 1, longLog / 2, longLog - 1} {
			notes := notesAt(ticksUpTo(longLog, 1, 300), 3)
			notes[place].Count = count
			list = append(list, notes)
		}
		list = append(list, notesAt([]int{7}, count))
	}
	return list
}

func goodBys() []int {
	return []int{-manyCount, 1 - manyCount, -7, -1, 0, 1, 7, manyCount - 1, manyCount}
}

func notBys() []int {
	return []int{math.MinInt, math.MinInt + 1, -limit, -manyCount - 1, manyCount + 1, limit, 1<<32 + 1, math.MaxInt}
}

func goodMoves() [][]impl.Move {
	list := [][]impl.Move{{}}
	for _, ticks := range goodTickLists() {
		list = append(list, movesAt(ticks, 3), movesAt(ticks, -3))
	}
	for _, by := range goodBys() {
		list = append(list, movesAt([]int{7}, by), movesAt(filled(longLog, 7), by))
	}
	return list
}

func noMoves() [][]impl.Move {
	var list [][]impl.Move
	for _, ticks := range noTickLists() {
		list = append(list, movesAt(ticks, 3), movesAt(ticks, -3))
	}
	for _, by := range notBys() {
		for _, place := range []int{0, 1, longLog / 2, longLog - 1} {
			moves := movesAt(ticksUpTo(longLog, 1, 300), 3)
			moves[place].By = by
			list = append(list, moves)
		}
		list = append(list, movesAt([]int{7}, by))
	}
	return list
}

func TestNotesOk(t *testing.T) {
	for _, notes := range goodNotes() {
		if !impl.NotesOk(notes) {
			t.Errorf("NotesOk(%v) is false", notes)
		}
	}
	for _, notes := range noNotes() {
		if impl.NotesOk(notes) {
			t.Errorf("NotesOk(%v) is true", notes)
		}
	}
}

func TestMovesOk(t *testing.T) {
	for _, moves := range goodMoves() {
		if !impl.MovesOk(moves) {
			t.Errorf("MovesOk(%v) is false", moves)
		}
	}
	for _, moves := range noMoves() {
		if impl.MovesOk(moves) {
			t.Errorf("MovesOk(%v) is true", moves)
		}
	}
}

func note(at int, count int) impl.Note { return impl.Note{At: at, Count: count} }

func move(at int, by int) impl.Move { return impl.Move{At: at, By: by} }

// windowed is a behavior without policies whose Min and Max forbid every other
// count, so that they show if Steady regards them.
func windowed(up int, down int) impl.Behave {
	return impl.Behave{Up: sideWith(0, up), Down: sideWith(0, down), Min: 500, Max: 500}
}

type steadyCase struct {
	b                impl.Behave
	notes            []impl.Note
	now, count, want int
	steady           int
}

func checkSteady(t *testing.T, cases []steadyCase) {
	t.Helper()
	for _, c := range cases {
		if got := impl.Steady(c.b, c.notes, c.now, c.count, c.want); got != c.steady {
			t.Errorf("Steady(%+v, %v, %d, %d, %d) = %d, want %d", c.b, c.notes, c.now, c.count, c.want, got, c.steady)
		}
	}
}

func TestSteady(t *testing.T) {
	example := []impl.Note{note(5, 6), note(12, 3)}
	both := []impl.Note{note(11, 2), note(12, 7), note(13, 5)}
	checkSteady(t, []steadyCase{
		{usualBehave(), example, 15, 6, 2, 6}, {usualBehave(), example, 30, 6, 2, 3}, {usualBehave(), example, 24, 6, 2, 6}, {usualBehave(), example, 25, 6, 2, 3}, {usualBehave(), example, 31, 6, 2, 3}, {usualBehave(), example, 32, 6, 2, 2},
		{usualBehave(), example, 15, 8, 2, 6}, {usualBehave(), example, 15, 4, 2, 4}, {usualBehave(), example, 15, 4, 9, 9}, {usualBehave(), example, 15, 1, 9, 9},
		// Without notes the count follows the law.
		{windowed(0, 0), nil, 15, 4, 9, 9}, {windowed(0, 0), nil, 15, 4, 2, 2}, {windowed(0, 0), nil, 15, 4, 4, 4}, {windowed(longSpan, longSpan), nil, 15, 4, 9, 9}, {windowed(longSpan, longSpan), nil, 15, 4, 2, 2}, {impl.Behave{}, nil, 0, 4, 2, 2},
		{windowed(10, 10), nil, 15, 0, manyCount, manyCount}, {windowed(10, 10), nil, 15, manyCount, 0, 0}, {windowed(10, 10), nil, 0, 3, 5, 5}, {windowed(10, 10), nil, lastTick, 3, 5, 5},
		// The count is below low, within, and above high.
		{windowed(10, 10), both, 15, 1, 4, 2}, {windowed(10, 10), both, 15, 2, 4, 2}, {windowed(10, 10), both, 15, 5, 4, 5}, {windowed(10, 10), both, 15, 7, 4, 7}, {windowed(10, 10), both, 15, 8, 4, 7},
		{windowed(10, 10), both, 15, 0, 1, 1}, {windowed(10, 10), both, 15, 1, 1, 1}, {windowed(10, 10), both, 15, 9, 8, 8}, {windowed(10, 10), both, 15, 8, 9, 8}, {windowed(10, 10), both, 15, 10, 9, 9},
		// The law's counts of both windows are extremes in any place.
		{windowed(10, 10), []impl.Note{note(11, 7), note(12, 2), note(13, 5)}, 15, 0, 6, 2}, {windowed(10, 10), []impl.Note{note(11, 5), note(12, 7), note(13, 2)}, 15, 9, 4, 7}, {windowed(10, 10), []impl.Note{note(12, 7), note(12, 2), note(12, 5)}, 15, 0, 4, 2}, {windowed(10, 10), []impl.Note{note(12, 2), note(12, 7)}, 15, 9, 4, 7},
		{windowed(10, 10), []impl.Note{note(12, 0), note(12, manyCount)}, 15, 500, 4, 500}, {windowed(10, 10), []impl.Note{note(12, 0)}, 15, 0, 4, 0}, {windowed(10, 10), []impl.Note{note(12, manyCount)}, 15, manyCount, 4, manyCount},
		{windowed(10, 10), notesAt(filled(longLog, 12), 6), 15, 9, 2, 6}, {windowed(10, 10), append(notesAt(filled(longLog-1, 12), 6), note(12, 8)), 15, 9, 2, 8}, {windowed(10, 10), append([]impl.Note{note(12, 8)}, notesAt(filled(longLog-1, 12), 6)...), 15, 9, 2, 8},
	})
}

func TestSteadyOfTwoWindows(t *testing.T) {
	low, high := []impl.Note{note(10, 2)}, []impl.Note{note(10, 9)}
	checkSteady(t, []steadyCase{
		// A note that only the other window covers holds nothing back.
		{windowed(5, 20), low, 20, 4, 6, 6}, {windowed(20, 5), low, 20, 4, 6, 4}, {windowed(20, 20), low, 20, 4, 6, 4}, {windowed(5, 5), low, 20, 4, 6, 6},
		{windowed(5, 20), high, 20, 7, 5, 7}, {windowed(20, 5), high, 20, 7, 5, 5}, {windowed(20, 20), high, 20, 7, 5, 7}, {windowed(5, 5), high, 20, 7, 5, 5},
		{windowed(0, longSpan), low, 20, 4, 6, 6}, {windowed(longSpan, 0), low, 20, 4, 6, 4}, {windowed(0, longSpan), high, 20, 7, 5, 7}, {windowed(longSpan, 0), high, 20, 7, 5, 5},
		// The two windows cover different notes.
		{windowed(5, 20), []impl.Note{note(2, 9), note(18, 3)}, 20, 1, 6, 3}, {windowed(5, 20), []impl.Note{note(2, 9), note(18, 3)}, 20, 10, 6, 9}, {windowed(20, 5), []impl.Note{note(2, 3), note(18, 9)}, 20, 1, 6, 3}, {windowed(20, 5), []impl.Note{note(2, 9), note(18, 3)}, 20, 10, 6, 6},
	})
}

// TestEdgesOfWindows has one note, and one tick with moves, that a window or a period covers or not.
func TestEdgesOfWindows(t *testing.T) {
	cases := []struct {
		window, at, now int
		covers          bool
	}{
		{5, 10, 10, true}, {5, 10, 11, true}, {5, 10, 14, true}, {5, 10, 15, false}, {5, 10, 16, false}, {5, 10, 9, false}, {5, 10, 8, false}, {5, 10, 0, false},
		{1, 10, 9, false}, {1, 10, 10, true}, {1, 10, 11, false}, {2, 10, 11, true}, {2, 10, 12, false}, {0, 10, 9, false}, {0, 10, 10, false}, {0, 10, 11, false}, {0, 0, 0, false}, {1, 0, 0, true}, {1, 0, 1, false},
		{longSpan, 0, 0, true}, {longSpan, 0, 3, true}, {longSpan, 0, longSpan - 1, true}, {longSpan, 0, longSpan, false}, {longSpan, 1, longSpan, true}, {longSpan, 1, 0, false}, {longSpan, 10, longSpan + 9, true}, {longSpan, 10, longSpan + 10, false}, {longSpan - 1, 0, longSpan - 1, false},
		{5, 3, 4, true}, {5, 0, 4, true}, {5, 0, 5, false}, {5, lastTick, lastTick, true}, {5, lastTick - 4, lastTick, true}, {5, lastTick - 5, lastTick, false}, {5, lastTick, lastTick - 1, false}, {longSpan, lastTick - longSpan, lastTick, false}, {longSpan, lastTick - longSpan + 1, lastTick, true}, {longSpan, lastTick, 0, false},
	}
	for _, c := range cases {
		steadyDown, steadyUp, trimmed := 2, 8, 0
		rose, fell := 0, 0
		if c.covers {
			steadyDown, steadyUp, rose, fell = 6, 3, 4, 5
		}
		if c.at > c.now-c.window {
			trimmed = 1
		}
		checkSteady(t, []steadyCase{
			{windowed(0, c.window), []impl.Note{note(c.at, 6)}, c.now, 6, 2, steadyDown}, {windowed(0, c.window), []impl.Note{note(c.at, 6)}, c.now, 7, 2, steadyDown},
			{windowed(c.window, 0), []impl.Note{note(c.at, 3)}, c.now, 3, 8, steadyUp}, {windowed(c.window, 0), []impl.Note{note(c.at, 3)}, c.now, 1, 8, steadyUp},
		})
		if up, down := impl.MovedIn([]impl.Move{move(c.at, 4), move(c.at, -5)}, c.now, c.window); up != rose || down != fell {
			t.Errorf("MovedIn at %d from %d for %d ticks = %d, %d", c.at, c.now, c.window, up, down)
		}
		if got := impl.TrimNotes([]impl.Note{note(c.at, 6)}, c.now, c.window); len(got) != trimmed {
			t.Errorf("TrimNotes at %d from %d for %d ticks = %v", c.at, c.now, c.window, got)
		}
		if c.window == 0 {
			continue
		}
		s := sideWith(0, 0, byPods(3, c.window))
		if got := impl.UpBound(s, []impl.Move{move(c.at, 1)}, c.now, 20); got != 23-rose/4 {
			t.Errorf("UpBound after a move at %d, at %d with the period %d = %d", c.at, c.now, c.window, got)
		}
		if got := impl.DownBound(s, []impl.Move{move(c.at, -1)}, c.now, 20); got != 17+fell/5 {
			t.Errorf("DownBound after a move at %d, at %d with the period %d = %d", c.at, c.now, c.window, got)
		}
	}
}

// steadyByRule collects what each window considers, by the ages of the notes.
func steadyByRule(b impl.Behave, notes []impl.Note, now int, count int, want int) int {
	ups, downs := []int{want}, []int{want}
	for _, n := range notes {
		age := now - n.At
		if age >= 0 && age < b.Up.Window {
			ups = append(ups, n.Count)
		}
		if age >= 0 && age < b.Down.Window {
			downs = append(downs, n.Count)
		}
	}
	slices.Sort(ups)
	slices.Sort(downs)
	if low := ups[0]; count < low {
		return low
	}
	if high := downs[len(downs)-1]; count > high {
		return high
	}
	return count
}

// noteLists have several notes in and around the windows of someNows.
func noteLists() [][]impl.Note {
	return [][]impl.Note{
		nil, {note(10, 3)}, {note(10, 9)}, {note(5, 6), note(12, 3)}, {note(5, 3), note(12, 6)}, {note(0, 0), note(0, manyCount)}, {note(14, 5), note(15, 1), note(15, 12), note(16, 7)},
		{note(4, 2), note(5, 8), note(9, 4), note(10, 12), note(11, 1), note(15, 7), note(20, 100)}, {note(29, 5), note(30, 2), note(31, 0)}, notesAt(filled(longLog, 10), 5), notesAt(ticksUpTo(longLog, 1, longLog), 4),
	}
}

func someNows() []int { return []int{0, 1, 5, 9, 10, 11, 15, 16, 20, 30, 31, longSpan + 10} }

// Promise 6: a stabilized count lies between the count and the desired one.
func TestSteadyFollowsTheRuleBetweenCountAndWant(t *testing.T) {
	held := map[bool]int{}
	for _, up := range []int{0, 1, 5, 15, longSpan} {
		for _, down := range []int{0, 1, 6, 20, longSpan} {
			for _, notes := range noteLists() {
				for _, now := range someNows() {
					for _, count := range counts() {
						for _, want := range counts() {
							b := windowed(up, down)
							got, rule := impl.Steady(b, notes, now, count, want), steadyByRule(b, notes, now, count, want)
							if got != rule || got < min(count, want) || got > max(count, want) {
								t.Fatalf("Steady(%d and %d, %v, %d, %d, %d) = %d, want %d", up, down, notes, now, count, want, got, rule)
							}
							held[got != want]++
						}
					}
				}
			}
		}
	}
	if held[true] == 0 || held[false] == 0 {
		t.Errorf("held and not: %v", held)
	}
}

func TestMovedIn(t *testing.T) {
	moves := []impl.Move{move(1, 2), move(5, -3), move(5, 4), move(9, 0), move(12, -1)}
	cases := []struct {
		moves       []impl.Move
		now, period int
		rose, fell  int
	}{
		{[]impl.Move{move(1, 2), move(5, -3)}, 5, 10, 2, 3}, {nil, 5, 10, 0, 0}, {[]impl.Move{}, 5, 10, 0, 0},
		{moves, 12, 20, 6, 4}, {moves, 12, 11, 4, 4}, {moves, 12, 12, 6, 4}, {moves, 12, 7, 0, 1}, {moves, 12, 8, 4, 4}, {moves, 12, 1, 0, 1}, {moves, 12, 0, 0, 0}, {moves, 11, 20, 6, 3}, {moves, 5, 20, 6, 3}, {moves, 5, 1, 4, 3}, {moves, 4, 20, 2, 0}, {moves, 0, 20, 0, 0}, {moves, 0, longSpan, 0, 0}, {moves, 1, longSpan, 2, 0}, {moves, 13, 1, 0, 0}, {moves, lastTick, longSpan, 0, 0},
		{[]impl.Move{move(5, 2)}, 5, 10, 2, 0}, {[]impl.Move{move(5, -2)}, 5, 10, 0, 2}, {[]impl.Move{move(5, 0)}, 5, 10, 0, 0}, {[]impl.Move{move(0, 1), move(0, -1)}, 0, 1, 1, 1}, {[]impl.Move{move(0, 1), move(0, -1)}, 0, 0, 0, 0},
		{[]impl.Move{move(lastTick, 1)}, lastTick, 1, 1, 0}, {[]impl.Move{move(lastTick, -1)}, lastTick, 0, 0, 0},
		{movesAt(filled(longLog, 7), manyCount), 7, 1, longLog * manyCount, 0}, {movesAt(filled(longLog, 7), -manyCount), 7, longSpan, 0, longLog * manyCount}, {movesAt(ticksUpTo(longLog, 1, longLog), 3), longLog, 50, 150, 0}, {movesAt(ticksUpTo(longLog, 1, longLog), -3), longLog, longLog, 0, 3 * longLog}, {movesAt(filled(longLog+1, 7), 3), 7, 1, 0, 0},
	}
	for _, c := range cases {
		if rose, fell := impl.MovedIn(c.moves, c.now, c.period); rose != c.rose || fell != c.fell {
			t.Errorf("MovedIn(%v, %d, %d) = %d, %d, want %d, %d", c.moves, c.now, c.period, rose, fell, c.rose, c.fell)
		}
	}
}

func TestMovedInRefuses(t *testing.T) {
	refuse := func(moves []impl.Move, now int, period int) {
		if rose, fell := impl.MovedIn(moves, now, period); rose != 0 || fell != 0 {
			t.Errorf("MovedIn(%v, %d, %d) = %d, %d", moves, now, period, rose, fell)
		}
	}
	moves := []impl.Move{move(0, 2), move(7, 2), move(7, -3), move(lastTick, 4)}
	for _, bad := range noMoves() {
		for _, now := range []int{7, 300, 302, lastTick} {
			refuse(bad, now, longSpan)
		}
	}
	for _, now := range notTicks() {
		for _, period := range append(windows(), notWindows()...) {
			refuse(moves, now, period)
			refuse(nil, now, period)
		}
	}
	for _, period := range notWindows() {
		for _, now := range append(goodTicks(), 7, longSpan+7) {
			refuse(moves, now, period)
			refuse(nil, now, period)
		}
	}
}

type boundCase struct {
	side       impl.Side
	moves      []impl.Move
	now, count int
	want       int
}

func checkBounds(t *testing.T, name string, bound func(impl.Side, []impl.Move, int, int) int, cases []boundCase) {
	t.Helper()
	for _, c := range cases {
		if got := bound(c.side, c.moves, c.now, c.count); got != c.want {
			t.Errorf("%s(%+v, %v, %d, %d) = %d, want %d", name, c.side, c.moves, c.now, c.count, got, c.want)
		}
	}
}

func TestUpBound(t *testing.T) {
	rise, fall := []impl.Move{move(10, 2)}, []impl.Move{move(10, -2)}
	pods := func(n int) impl.Side { return sideWith(0, 0, byPods(n, 10)) }
	percent := func(n int) impl.Side { return sideWith(0, 0, byPercent(n, 10)) }
	checkBounds(t, "UpBound", impl.UpBound, []boundCase{
		{usualUp(), nil, 15, 4, 6}, {usualUp(), rise, 15, 4, 4}, {usualUp(), fall, 15, 4, 8}, {usualUp(), rise, 20, 4, 6}, {usualUp(), rise, 19, 4, 4}, {usualUp(), rise, 9, 4, 6}, {usualUp(), []impl.Move{move(10, 1)}, 15, 4, 5}, {usualUp(), []impl.Move{move(10, 1), move(11, -1)}, 15, 4, 6}, {usualUp(), []impl.Move{move(3, 5), move(10, 1)}, 15, 4, 5},
		// No policies, and no change.
		{impl.Side{}, nil, 15, 4, manyCount}, {impl.Side{}, rise, 15, manyCount, manyCount}, {impl.Side{Policies: []impl.Policy{}}, nil, 0, 0, manyCount}, {sideWith(1, 9), rise, 15, 4, manyCount}, {sideWith(2, 0), nil, 15, 4, 4}, {sideWith(2, 0, byPods(2, 10)), nil, 15, 4, 4}, {sideWith(2, longSpan, byPods(2, 10)), fall, 15, 4, 4}, {sideWith(2, 0), nil, 15, 0, 0}, {sideWith(2, 0), nil, 15, manyCount, manyCount},
		// Percentages, rounded up.
		{percent(1), nil, 15, 0, 0}, {percent(1), nil, 15, 1, 2}, {percent(1), nil, 15, 100, 101}, {percent(1), nil, 15, 101, 103}, {percent(50), nil, 15, 3, 5}, {percent(50), nil, 15, 4, 6}, {percent(99), nil, 15, 1, 2}, {percent(99), nil, 15, 2, 4}, {percent(99), nil, 15, 100, 199}, {percent(99), nil, 15, 101, 201}, {percent(100), nil, 15, 1, 2}, {percent(100), nil, 15, 7, 14}, {percent(101), nil, 15, 1, 3}, {percent(101), nil, 15, 100, 201}, {percent(101), nil, 15, 99, 199}, {percent(manyCount), nil, 15, 1, 11}, {percent(manyCount), nil, 15, 90, 990}, {percent(manyCount), nil, 15, 91, manyCount}, {percent(manyCount), nil, 15, 0, 0},
		{percent(1), rise, 15, 102, 102}, {percent(2), rise, 15, 102, 102}, {percent(3), rise, 15, 102, 103}, {percent(50), rise, 15, 5, 5}, {percent(100), rise, 15, 5, 6}, {percent(10), fall, 15, 9, 13}, {percent(10), fall, 15, 8, 11},
		// Beyond both limits of the counts.
		{pods(2), nil, 15, manyCount - 3, manyCount - 1}, {pods(2), nil, 15, manyCount - 2, manyCount}, {pods(2), nil, 15, manyCount - 1, manyCount}, {pods(2), nil, 15, manyCount, manyCount}, {pods(manyCount), nil, 15, 0, manyCount}, {pods(manyCount), nil, 15, manyCount, manyCount}, {percent(100), nil, 15, 500, manyCount}, {percent(100), nil, 15, 501, manyCount}, {percent(1), nil, 15, 990, manyCount}, {percent(1), nil, 15, 991, manyCount},
		{pods(3), []impl.Move{move(10, 6)}, 15, 5, 5}, {pods(7), []impl.Move{move(10, 6)}, 15, 5, 7}, {pods(7), []impl.Move{move(10, 5)}, 15, 5, 7}, {pods(7), []impl.Move{move(10, 4)}, 15, 5, 8}, {percent(100), []impl.Move{move(10, 6)}, 15, 5, 5}, {percent(manyCount), []impl.Move{move(10, manyCount)}, 15, 5, 5}, {pods(9), []impl.Move{move(10, manyCount)}, 15, 5, 9},
		{pods(2), []impl.Move{move(10, -manyCount)}, 15, 5, manyCount}, {percent(1), []impl.Move{move(10, -manyCount)}, 15, 0, manyCount}, {pods(2), []impl.Move{move(10, -995)}, 15, 3, manyCount}, {pods(2), []impl.Move{move(10, -995)}, 15, 2, 999}, {pods(manyCount), movesAt(filled(longLog, 10), -manyCount), 15, manyCount, manyCount}, {percent(manyCount), movesAt(filled(longLog, 10), -manyCount), 15, 3, manyCount}, {percent(manyCount), movesAt(filled(longLog, 10), manyCount), 15, 3, 3}, {pods(8), movesAt(filled(longLog, 10), manyCount), 15, 3, 8},
	})
}

func TestDownBound(t *testing.T) {
	rise, fall := []impl.Move{move(10, 2)}, []impl.Move{move(10, -2)}
	pods := func(n int) impl.Side { return sideWith(0, 0, byPods(n, 10)) }
	percent := func(n int) impl.Side { return sideWith(0, 0, byPercent(n, 10)) }
	checkBounds(t, "DownBound", impl.DownBound, []boundCase{
		{usualDown(), nil, 15, 8, 4}, {usualDown(), fall, 15, 6, 4}, {usualDown(), rise, 15, 10, 4}, {usualDown(), fall, 20, 6, 3}, {usualDown(), fall, 19, 6, 4}, {usualDown(), fall, 9, 6, 3}, {usualDown(), []impl.Move{move(10, -1), move(11, 1)}, 15, 8, 4}, {usualDown(), []impl.Move{move(3, -5), move(10, -1)}, 15, 8, 4},
		{pods(2), nil, 15, 8, 6}, {pods(2), fall, 15, 8, 8}, {pods(2), rise, 15, 8, 4}, {pods(2), fall, 20, 8, 6}, {pods(2), []impl.Move{move(10, -1)}, 15, 8, 7}, {pods(2), []impl.Move{move(10, -5)}, 15, 8, 8},
		// No policies, and no change.
		{impl.Side{}, nil, 15, 4, 0}, {impl.Side{}, fall, 15, 0, 0}, {impl.Side{Policies: []impl.Policy{}}, nil, 0, manyCount, 0}, {sideWith(1, 9), fall, 15, 4, 0}, {sideWith(2, 0), nil, 15, 4, 4}, {sideWith(2, 0, byPods(2, 10)), nil, 15, 4, 4}, {sideWith(2, longSpan, byPods(2, 10)), rise, 15, 4, 4}, {sideWith(2, 0), nil, 15, 0, 0}, {sideWith(2, 0), nil, 15, manyCount, manyCount},
		// Percentages, rounded down, of which at least nothing is left.
		{percent(1), nil, 15, 0, 0}, {percent(1), nil, 15, 1, 0}, {percent(1), nil, 15, 100, 99}, {percent(1), nil, 15, 101, 99}, {percent(50), nil, 15, 3, 1}, {percent(50), nil, 15, 4, 2}, {percent(99), nil, 15, 1, 0}, {percent(99), nil, 15, 99, 0}, {percent(99), nil, 15, 100, 1}, {percent(99), nil, 15, 199, 1}, {percent(99), nil, 15, 200, 2}, {percent(100), nil, 15, 1, 0}, {percent(100), nil, 15, manyCount, 0}, {percent(101), nil, 15, 1, 0}, {percent(101), nil, 15, 100, 0}, {percent(101), nil, 15, manyCount, 0}, {percent(manyCount), nil, 15, 1, 0}, {percent(manyCount), nil, 15, manyCount, 0}, {percent(manyCount), nil, 15, 0, 0}, {percent(101), fall, 15, 0, 0},
		{percent(1), fall, 15, 98, 98}, {percent(2), fall, 15, 98, 98}, {percent(3), fall, 15, 98, 97}, {percent(50), fall, 15, 5, 3}, {percent(10), rise, 15, 13, 9}, {percent(10), rise, 15, 12, 9},
		// Beyond both limits of the counts.
		{pods(2), nil, 15, 3, 1}, {pods(2), nil, 15, 2, 0}, {pods(2), nil, 15, 1, 0}, {pods(2), nil, 15, 0, 0}, {pods(manyCount), nil, 15, manyCount, 0}, {pods(manyCount), nil, 15, 1, 0}, {pods(1), nil, 15, manyCount, manyCount - 1},
		{pods(3), []impl.Move{move(10, 6)}, 15, 5, 0}, {percent(1), []impl.Move{move(10, 6)}, 15, 5, 0}, {percent(101), []impl.Move{move(10, 6)}, 15, 5, 0}, {percent(manyCount), []impl.Move{move(10, manyCount)}, 15, 5, 0}, {percent(manyCount), movesAt(filled(longLog, 10), manyCount), 15, manyCount, 0},
		{pods(400), []impl.Move{move(10, -manyCount)}, 15, 700, 600}, {pods(300), []impl.Move{move(10, -manyCount)}, 15, 700, 700}, {pods(301), []impl.Move{move(10, -manyCount)}, 15, 700, 699}, {pods(400), []impl.Move{move(10, -300)}, 15, 700, 600}, {pods(400), []impl.Move{move(10, -301)}, 15, 700, 600}, {pods(400), []impl.Move{move(10, -299)}, 15, 700, 599}, {percent(40), []impl.Move{move(10, -manyCount)}, 15, 700, 600}, {percent(40), []impl.Move{move(10, -299)}, 15, 700, 599}, {pods(manyCount), movesAt(filled(longLog, 10), -manyCount), 15, 700, 0}, {percent(99), movesAt(filled(longLog, 10), -manyCount), 15, 700, 10}, {percent(101), movesAt(filled(longLog, 10), -manyCount), 15, 700, 0},
	})
}

// The bounds of the policies below differ because of their values, kinds or periods.
func TestBoundsOfSeveralPolicies(t *testing.T) {
	three := []impl.Policy{byPods(3, 5), byPercent(50, 10), byPods(1, 20)}
	later := []impl.Policy{byPods(1, 20), byPods(3, 5), byPercent(50, 10)}
	moves := []impl.Move{move(1, 4), move(8, -2), move(12, 3)}
	wrong := []impl.Move{move(14, 5)}
	drop := []impl.Move{move(14, -5)}
	checkBounds(t, "UpBound", impl.UpBound, []boundCase{
		{sideWith(0, 0, three...), nil, 15, 4, 7}, {sideWith(1, 0, three...), nil, 15, 4, 5}, {sideWith(2, 0, three...), nil, 15, 4, 4}, {sideWith(0, 0, later...), nil, 15, 4, 7}, {sideWith(1, 0, later...), nil, 15, 4, 5}, {sideWith(0, 0, three...), nil, 15, 40, 60}, {sideWith(1, 0, three...), nil, 15, 40, 41}, {sideWith(2, 0, later...), nil, 15, 40, 40},
		// At 15 the periods begin with 17, 19 and 15.
		{sideWith(0, 0, three...), moves, 15, 20, 29}, {sideWith(1, 0, three...), moves, 15, 20, 20}, {sideWith(1, 0, byPods(3, 5), byPercent(50, 10)), moves, 15, 20, 20}, {sideWith(0, 0, byPods(4, 5), byPods(9, 20)), moves, 15, 20, 24}, {sideWith(1, 0, byPods(4, 5), byPods(9, 20)), moves, 15, 20, 21}, {sideWith(1, 0, byPods(9, 20), byPods(4, 5)), moves, 15, 20, 21},
		// All bounds, or only the selected one, are below the count.
		{sideWith(0, 0, three...), wrong, 15, 9, 9}, {sideWith(1, 0, three...), wrong, 15, 9, 9}, {sideWith(0, 0, byPods(3, 5), byPods(8, 10)), wrong, 15, 9, 12}, {sideWith(1, 0, byPods(3, 5), byPods(8, 10)), wrong, 15, 9, 9}, {sideWith(0, 0, byPods(3, 5), byPods(5, 10)), wrong, 15, 9, 9}, {sideWith(0, 0, byPods(3, 5), byPods(6, 10)), wrong, 15, 9, 10},
		{sideWith(0, 0, byPods(2, 5), byPods(2, 5), byPods(2, 5)), nil, 15, 4, 6}, {sideWith(1, 0, byPods(2, 5), byPods(2, 5), byPods(2, 5)), nil, 15, 4, 6}, {sideWith(1, 0, byPods(manyCount, 5), byPercent(1, 5)), nil, 15, 0, 0}, {sideWith(0, 0, byPercent(1, 5), byPods(manyCount, 5)), nil, 15, 0, manyCount},
	})
	checkBounds(t, "DownBound", impl.DownBound, []boundCase{
		{sideWith(0, 0, three...), nil, 15, 4, 1}, {sideWith(1, 0, three...), nil, 15, 4, 3}, {sideWith(2, 0, three...), nil, 15, 4, 4}, {sideWith(0, 0, later...), nil, 15, 4, 1}, {sideWith(1, 0, later...), nil, 15, 4, 3}, {sideWith(0, 0, three...), nil, 15, 40, 20}, {sideWith(1, 0, three...), nil, 15, 40, 39}, {sideWith(2, 0, later...), nil, 15, 40, 40},
		// At 15 the periods begin with 17, 19 and 15.
		{sideWith(0, 0, three...), moves, 15, 20, 9}, {sideWith(1, 0, three...), moves, 15, 20, 14}, {sideWith(1, 0, byPods(3, 5), byPercent(50, 10)), moves, 15, 20, 14}, {sideWith(0, 0, byPods(8, 5), byPods(4, 20)), moves, 15, 20, 9}, {sideWith(1, 0, byPods(8, 5), byPods(4, 20)), moves, 15, 20, 11}, {sideWith(1, 0, byPods(4, 20), byPods(8, 5)), moves, 15, 20, 11},
		// All bounds, or only the selected one, are above the count.
		{sideWith(0, 0, byPods(3, 5), byPods(4, 10)), drop, 15, 9, 9}, {sideWith(1, 0, three...), drop, 15, 9, 9}, {sideWith(0, 0, byPods(3, 5), byPods(8, 10)), drop, 15, 9, 6}, {sideWith(1, 0, byPods(3, 5), byPods(8, 10)), drop, 15, 9, 9}, {sideWith(0, 0, byPods(3, 5), byPods(5, 10)), drop, 15, 9, 9}, {sideWith(0, 0, byPods(3, 5), byPods(6, 10)), drop, 15, 9, 8},
		{sideWith(0, 0, byPods(2, 5), byPods(2, 5), byPods(2, 5)), nil, 15, 4, 2}, {sideWith(1, 0, byPods(2, 5), byPods(2, 5), byPods(2, 5)), nil, 15, 4, 2}, {sideWith(1, 0, byPods(manyCount, 5), byPercent(1, 5)), nil, 15, manyCount, 990}, {sideWith(0, 0, byPercent(1, 5), byPercent(manyCount, 5)), nil, 15, manyCount, 0},
	})
}

// countBefore undoes the moves of a period, from the last one on.
func countBefore(moves []impl.Move, now int, count int, period int) int {
	for _, m := range slices.Backward(moves) {
		if age := now - m.At; age >= 0 && age < period {
			count -= m.By
		}
	}
	return max(count, 0)
}

// shareOf is count times percent / 100, exactly.
func shareOf(count int, percent int, up bool) int {
	return int(rounded(product(count, percent), 100, up).Int64())
}

// upByRule and downByRule are for valid arguments.
func upByRule(s impl.Side, moves []impl.Move, now int, count int) int {
	if s.Select == 2 {
		return count
	}
	if len(s.Policies) == 0 {
		return manyCount
	}
	var bounds []int
	for _, p := range s.Policies {
		before := countBefore(moves, now, count, p.Period)
		bound := []int{before + p.Value, shareOf(before, 100+p.Value, true)}[p.Kind]
		bounds = append(bounds, min(bound, manyCount))
	}
	slices.Sort(bounds)
	if s.Select == 0 {
		slices.Reverse(bounds)
	}
	return max(bounds[0], count)
}

func downByRule(s impl.Side, moves []impl.Move, now int, count int) int {
	if s.Select == 2 {
		return count
	}
	var bounds []int
	for _, p := range s.Policies {
		before := min(countBefore(moves, now, count, p.Period), manyCount)
		bound := []int{before - p.Value, shareOf(before, max(100-p.Value, 0), false)}[p.Kind]
		bounds = append(bounds, max(bound, 0))
	}
	slices.Sort(bounds)
	if s.Select == 1 {
		slices.Reverse(bounds)
	}
	return min(append(bounds, 0)[0], count)
}

func moveLists() [][]impl.Move {
	return [][]impl.Move{
		nil, {move(10, 2)}, {move(10, -2)}, {move(5, 3), move(12, -1)}, {move(5, -4), move(5, 6), move(11, 1), move(15, 2), move(16, -7)}, {move(0, manyCount)}, {move(0, -manyCount)}, {move(9, 300), move(9, 400)}, {move(9, -300), move(9, -400), move(14, -500)},
		movesAt(filled(longLog, 10), 1), movesAt(ticksUpTo(longLog, 1, longLog), -1), movesAt(filled(longLog, 10), -manyCount), movesAt(filled(longLog, 10), manyCount),
	}
}

// someSides have all choices and from no policies to three.
func someSides() []impl.Side {
	pool := []impl.Policy{byPods(1, 1), byPods(2, 10), byPods(7, 5), byPods(manyCount, longSpan), byPercent(1, 10), byPercent(50, 10), byPercent(99, 5), byPercent(100, 15), byPercent(101, 10), byPercent(manyCount, 6)}
	lists := [][]impl.Policy{nil}
	for i, p := range pool {
		lists = append(lists, []impl.Policy{p})
		for k, q := range pool {
			lists = append(lists, []impl.Policy{p, q})
			if (i+k)%4 == 0 {
				lists = append(lists, []impl.Policy{p, q, pool[(i+3*k+1)%len(pool)]})
			}
		}
	}
	var list []impl.Side
	for _, policies := range lists {
		for _, choice := range choices() {
			list = append(list, sideWith(choice, 10, policies...))
		}
	}
	return list
}

func TestBoundsFollowTheRule(t *testing.T) {
	moved := map[int]int{}
	for _, s := range someSides() {
		for _, moves := range moveLists() {
			for _, now := range []int{0, 10, 14, 15, 20, longSpan + 9} {
				for _, count := range counts() {
					up, down := impl.UpBound(s, moves, now, count), impl.DownBound(s, moves, now, count)
					if want := upByRule(s, moves, now, count); up != want {
						t.Fatalf("UpBound(%+v, %v, %d, %d) = %d, want %d", s, moves, now, count, up, want)
					}
					if want := downByRule(s, moves, now, count); down != want {
						t.Fatalf("DownBound(%+v, %v, %d, %d) = %d, want %d", s, moves, now, count, down, want)
					}
					if down < 0 || down > count || count > up || up > manyCount {
						t.Fatalf("%d is not within %d..%d", count, down, up)
					}
					moved[min(up-count, 1)]++
					moved[max(down-count, -1)]++
				}
			}
		}
	}
	if moved[-1] == 0 || moved[0] == 0 || moved[1] == 0 {
		t.Errorf("allowed changes: %v", moved)
	}
}

func TestBoundsOfEveryPercentage(t *testing.T) {
	for percent := 1; percent <= manyCount; percent++ {
		s := sideWith(percent%2, 0, byPercent(percent, 10))
		for _, count := range []int{0, 1, 2, 3, 9, 10, 33, 49, 50, 51, 99, 100, 101, 199, 333, 500, 501, 667, manyCount - 1, manyCount} {
			if got, want := impl.UpBound(s, nil, 15, count), min(shareOf(count, 100+percent, true), manyCount); got != want {
				t.Errorf("UpBound of %d by %d percent = %d, want %d", count, percent, got, want)
			}
			if got, want := impl.DownBound(s, nil, 15, count), shareOf(count, max(100-percent, 0), false); got != want {
				t.Errorf("DownBound of %d by %d percent = %d, want %d", count, percent, got, want)
			}
		}
	}
}

// refuseBounds expects that both bounds are refused, since they have the same conditions.
func refuseBounds(t *testing.T, s impl.Side, moves []impl.Move, now int, count int) {
	t.Helper()
	if up, down := impl.UpBound(s, moves, now, count), impl.DownBound(s, moves, now, count); up != -1 || down != -1 {
		t.Errorf("the bounds of %+v, %v, %d, %d are %d and %d", s, moves, now, count, up, down)
	}
}

func TestBoundsRefuse(t *testing.T) {
	for _, s := range badSides() {
		for _, count := range counts() {
			refuseBounds(t, s, nil, 15, count)
			refuseBounds(t, s, []impl.Move{move(10, 2)}, 15, count)
		}
	}
	for _, s := range []impl.Side{{}, sideWith(1, 0), sideWith(2, 0), usualUp(), usualDown(), sideWith(1, 0, byPods(2, 10)), sideWith(2, 0, byPods(2, 10))} {
		for _, moves := range noMoves() {
			refuseBounds(t, s, moves, 15, 4)
			refuseBounds(t, s, moves, lastTick, 4)
		}
		for _, now := range notTicks() {
			refuseBounds(t, s, nil, now, 4)
			refuseBounds(t, s, []impl.Move{move(10, 2)}, now, 4)
		}
		for _, count := range notCounts() {
			refuseBounds(t, s, nil, 15, count)
			refuseBounds(t, s, []impl.Move{move(10, 2)}, 15, count)
		}
	}
}

type limitCase struct {
	b                impl.Behave
	moves            []impl.Move
	now, count, want int
	limited          int
}

func checkLimits(t *testing.T, cases []limitCase) {
	t.Helper()
	for _, c := range cases {
		if got := impl.LimitWant(c.b, c.moves, c.now, c.count, c.want); got != c.limited {
			t.Errorf("LimitWant(%+v, %v, %d, %d, %d) = %d, want %d", c.b, c.moves, c.now, c.count, c.want, got, c.limited)
		}
		b := c.b
		b.Down.Window = 0
		if got := impl.Decide(b, nil, c.moves, c.now, c.count, c.want); got != c.limited {
			t.Errorf("Decide(%+v, no notes, %v, %d, %d, %d) = %d, want %d", b, c.moves, c.now, c.count, c.want, got, c.limited)
		}
	}
}

// between is usualBehave with another Min and Max.
func between(least int, most int) impl.Behave {
	b := usualBehave()
	b.Min, b.Max = least, most
	return b
}

func TestLimitWant(t *testing.T) {
	still := between(1, 10)
	still.Up.Select, still.Down.Select = 2, 2
	free := impl.Behave{Min: 2, Max: 9}
	checkLimits(t, []limitCase{
		{usualBehave(), nil, 15, 4, 9, 6}, {usualBehave(), nil, 15, 4, 7, 6}, {usualBehave(), nil, 15, 4, 6, 6}, {usualBehave(), nil, 15, 4, 5, 5}, {usualBehave(), nil, 15, 4, 4, 4}, {usualBehave(), nil, 15, 4, 3, 3}, {usualBehave(), nil, 15, 4, 2, 2}, {usualBehave(), nil, 15, 4, 1, 2}, {usualBehave(), nil, 15, 4, 0, 2}, {usualBehave(), nil, 15, 4, manyCount, 6},
		{usualBehave(), []impl.Move{move(10, 2)}, 15, 4, 9, 4}, {usualBehave(), []impl.Move{move(10, 2)}, 15, 4, 0, 1}, {usualBehave(), []impl.Move{move(10, -2)}, 15, 4, 0, 3}, {usualBehave(), []impl.Move{move(10, -2)}, 15, 4, 9, 8},
		// Min and Max inside, at and outside the bounds 2 and 6.
		{between(1, 5), nil, 15, 4, 9, 5}, {between(1, 5), nil, 15, 4, 5, 5}, {between(1, 5), nil, 15, 4, 4, 4}, {between(1, 6), nil, 15, 4, 9, 6}, {between(1, 7), nil, 15, 4, 9, 6}, {between(3, 10), nil, 15, 4, 0, 3}, {between(3, 10), nil, 15, 4, 3, 3}, {between(3, 10), nil, 15, 4, 2, 3}, {between(2, 10), nil, 15, 4, 0, 2}, {between(1, 10), nil, 15, 4, 0, 2}, {between(0, 10), nil, 15, 1, 0, 0}, {between(1, 10), nil, 15, 1, 0, 1}, {between(4, 4), nil, 15, 4, 9, 4}, {between(4, 4), nil, 15, 4, 0, 4}, {between(4, 4), nil, 15, 4, 4, 4},
		{between(0, 0), nil, 15, 0, 9, 0}, {between(0, manyCount), nil, 15, manyCount, manyCount, manyCount}, {between(0, manyCount), nil, 15, manyCount - 1, manyCount, manyCount}, {between(manyCount, manyCount), nil, 15, manyCount, 0, manyCount},
		// A count outside Min..Max is forced there, even beyond a bound.
		{between(1, 10), nil, 15, 20, 0, 10}, {between(1, 10), nil, 15, 40, 0, 10}, {between(1, 10), nil, 15, 11, 20, 10}, {between(1, 10), nil, 15, 16, 9, 9}, {between(1, 10), nil, 15, 18, 9, 9}, {between(1, 10), nil, 15, 20, 9, 10}, {between(1, 10), nil, 15, 0, 0, 1}, {between(1, 10), nil, 15, 0, 9, 2}, {between(5, 10), nil, 15, 0, 9, 5}, {between(5, 10), nil, 15, 4, 9, 6}, {between(5, 10), nil, 15, 4, 0, 5}, {between(5, 10), nil, 15, 2, 9, 5}, {between(manyCount, manyCount), nil, 15, 0, 0, manyCount}, {between(0, 0), nil, 15, manyCount, manyCount, 0},
		// Without a change on a side only Min and Max move the count.
		{still, nil, 15, 4, 9, 4}, {still, nil, 15, 4, 0, 4}, {still, nil, 15, 4, 4, 4}, {still, nil, 15, 20, 20, 10}, {still, nil, 15, 20, 0, 10}, {still, nil, 15, 0, 9, 1}, {still, nil, 15, 1, 0, 1}, {still, nil, 15, 10, manyCount, 10},
		// Without policies only Min and Max hold it.
		{free, nil, 15, 4, manyCount, 9}, {free, nil, 15, 4, 0, 2}, {free, nil, 15, 4, 5, 5}, {free, nil, 15, 2, 9, 9}, {free, nil, 15, 0, 3, 3}, {impl.Behave{}, nil, 0, 0, 0, 0}, {impl.Behave{}, nil, 0, 5, 5, 0}, {impl.Behave{Max: manyCount}, nil, lastTick, 0, manyCount, manyCount}, {impl.Behave{Max: manyCount}, nil, lastTick, manyCount, 0, 0},
	})
}

func TestDecide(t *testing.T) {
	notes := []impl.Note{note(5, 6), note(12, 3)}
	slow := usualBehave()
	slow.Up.Window = 10
	cases := []struct {
		b                impl.Behave
		notes            []impl.Note
		moves            []impl.Move
		now, count, want int
		decided          int
	}{
		{usualBehave(), nil, nil, 15, 4, 9, 6}, {usualBehave(), notes, nil, 15, 6, 2, 6}, {usualBehave(), notes, nil, 30, 6, 2, 3}, {usualBehave(), notes, nil, 30, 9, 2, 4}, {usualBehave(), notes, nil, 32, 6, 2, 3}, {usualBehave(), notes, nil, 15, 9, 2, 6}, {usualBehave(), notes, nil, 15, 1, 2, 2}, {usualBehave(), notes, nil, 15, 3, 9, 5},
		{usualBehave(), notes, []impl.Move{move(14, -1)}, 15, 9, 2, 6}, {usualBehave(), notes, []impl.Move{move(14, -5)}, 15, 9, 2, 7}, {usualBehave(), notes, []impl.Move{move(14, 1)}, 15, 3, 9, 4}, {usualBehave(), notes, []impl.Move{move(14, 2)}, 15, 3, 9, 3},
		{slow, notes, nil, 15, 1, 9, 3}, {slow, notes, nil, 15, 2, 9, 3}, {slow, notes, nil, 15, 3, 9, 3}, {slow, notes, nil, 22, 3, 9, 5}, {slow, notes, nil, 21, 3, 9, 3}, {slow, notes, nil, 21, 2, 9, 3},
		{between(7, 10), notes, nil, 15, 6, 2, 7}, {between(1, 5), notes, nil, 15, 6, 2, 5}, {between(1, 10), []impl.Note{note(12, 40)}, nil, 15, 50, 2, 10}, {between(0, 100), []impl.Note{note(12, 40)}, nil, 15, 50, 2, 40}, {between(0, 100), []impl.Note{note(12, 40)}, nil, 15, 90, 2, 45},
	}
	for _, c := range cases {
		if got := impl.Decide(c.b, c.notes, c.moves, c.now, c.count, c.want); got != c.decided {
			t.Errorf("Decide(%+v, %v, %v, %d, %d, %d) = %d, want %d", c.b, c.notes, c.moves, c.now, c.count, c.want, got, c.decided)
		}
	}
}

// refuseDecisions expects that Decide is refused, and Steady and LimitWant if
// their arguments are among the invalid ones.
func refuseDecisions(t *testing.T, b impl.Behave, notes []impl.Note, moves []impl.Move, now int, count int, want int) {
	t.Helper()
	steadyToo, limitToo := impl.MovesOk(moves), impl.NotesOk(notes)
	if got := impl.Steady(b, notes, now, count, want); steadyToo && got != -1 {
		t.Errorf("Steady(%+v, %v, %d, %d, %d) = %d", b, notes, now, count, want, got)
	}
	if got := impl.LimitWant(b, moves, now, count, want); limitToo && got != -1 {
		t.Errorf("LimitWant(%+v, %v, %d, %d, %d) = %d", b, moves, now, count, want, got)
	}
	if got := impl.Decide(b, notes, moves, now, count, want); got != -1 {
		t.Errorf("Decide(%+v, %v, %v, %d, %d, %d) = %d", b, notes, moves, now, count, want, got)
	}
}

func TestDecisionsRefuse(t *testing.T) {
	notes, moves := []impl.Note{note(5, 6), note(12, 3)}, []impl.Move{move(10, 2)}
	for _, b := range badBehaves() {
		refuseDecisions(t, b, notes, moves, 15, 4, 9)
		refuseDecisions(t, b, nil, nil, 15, 4, 4)
	}
	still := between(1, 10)
	still.Up.Select, still.Down.Select = 2, 2
	for _, b := range []impl.Behave{{}, usualBehave(), still, windowed(0, 0), windowed(longSpan, longSpan)} {
		for _, bad := range noNotes() {
			refuseDecisions(t, b, bad, moves, 15, 4, 9)
			refuseDecisions(t, b, bad, nil, lastTick, 4, 4)
		}
		for _, bad := range noMoves() {
			refuseDecisions(t, b, notes, bad, 15, 4, 9)
			refuseDecisions(t, b, nil, bad, lastTick, 4, 4)
		}
		for _, now := range notTicks() {
			refuseDecisions(t, b, notes, moves, now, 4, 9)
			refuseDecisions(t, b, nil, nil, now, 4, 4)
		}
		for _, bad := range notCounts() {
			refuseDecisions(t, b, notes, moves, 15, bad, 9)
			refuseDecisions(t, b, notes, moves, 15, 4, bad)
			refuseDecisions(t, b, nil, nil, 15, bad, bad)
		}
	}
}

func TestSteadyAndLimitWantTakeAllValidArguments(t *testing.T) {
	for _, now := range goodTicks() {
		for _, count := range counts() {
			for _, b := range goodBehaves() {
				if got := impl.Steady(b, nil, now, count, 4); got != 4 {
					t.Fatalf("Steady(%+v, no notes, %d, %d, 4) = %d", b, now, count, got)
				}
				want := min(max(count, b.Min), b.Max)
				if got := impl.LimitWant(b, nil, now, count, count); got != want {
					t.Fatalf("LimitWant(%+v, no moves, %d, %d, %d) = %d, want %d", b, now, count, count, got, want)
				}
			}
		}
	}
	for _, notes := range goodNotes() {
		if got := impl.Steady(usualBehave(), notes, 0, 4, 9); got != 9 {
			t.Errorf("Steady(%v, 0, 4, 9) = %d", notes, got)
		}
	}
	for _, moves := range goodMoves() {
		if got := impl.LimitWant(usualBehave(), moves, 0, 4, 4); got != 4 {
			t.Errorf("LimitWant(%v, 0, 4, 4) = %d", moves, got)
		}
	}
}

// someBehaves combine sides of all choices, windows and policies.
func someBehaves() []impl.Behave {
	sides := someSides()
	var list []impl.Behave
	for i, up := range sides {
		for _, k := range []int{0, 1, 5, 40, 101} {
			down := sides[(7*i+k)%len(sides)]
			up.Window, down.Window = []int{0, 5, 1000}[i%3], []int{0, 6, 20}[(i+k)%3]
			limits := [][2]int{{1, 10}, {0, manyCount}, {3, 5}, {4, 4}, {0, 0}}[(i+k)%5]
			list = append(list, impl.Behave{Up: up, Down: down, Min: limits[0], Max: limits[1]})
		}
	}
	return list
}

// Promise 6: a decision exceeds no bound and is within Min and Max.
func TestDecisionsExceedNoBound(t *testing.T) {
	allMoves, allNotes := moveLists(), noteLists()
	moved := map[int]int{}
	for i, b := range someBehaves() {
		for k := range 3 {
			moves, notes := allMoves[(i+4*k)%len(allMoves)], allNotes[(i+k)%len(allNotes)]
			now := []int{10, 14, 15, 16, 20}[(i+2*k)%5]
			for _, count := range []int{0, 1, 3, 4, 5, 8, 10, 90, manyCount} {
				for _, want := range []int{0, 1, 4, 5, 9, 12, manyCount} {
					up, down := upByRule(b.Up, moves, now, count), downByRule(b.Down, moves, now, count)
					steady := steadyByRule(b, notes, now, count, want)
					limited, decided := impl.LimitWant(b, moves, now, count, steady), impl.Decide(b, notes, moves, now, count, want)
					rule := min(max(min(max(steady, down), up), b.Min), b.Max)
					if limited != rule || decided != rule {
						t.Fatalf("Decide(%+v, %v, %v, %d, %d, %d) = %d, and LimitWant %d, want %d", b, notes, moves, now, count, want, decided, limited, rule)
					}
					if decided < b.Min || decided > b.Max {
						t.Fatalf("%d is not within %d..%d", decided, b.Min, b.Max)
					}
					if count < b.Min || count > b.Max {
						continue
					}
					if decided < down || decided > up || decided < min(count, want) || decided > max(count, want) {
						t.Fatalf("from %d to %d, desired %d, beyond %d..%d", count, decided, want, down, up)
					}
					if b.Up.Select == 2 && decided > count || b.Down.Select == 2 && decided < count {
						t.Fatalf("%+v changes %d to %d", b, count, decided)
					}
					moved[min(max(decided-count, -1), 1)]++
				}
			}
		}
	}
	if moved[-1] == 0 || moved[0] == 0 || moved[1] == 0 {
		t.Errorf("changes in each direction: %v", moved)
	}
}

// checkRates follows decisions over time. It knows from the counts of all ticks,
// and not from the moves, what the count was when a period began.
func checkRates(t *testing.T, up impl.Policy, down impl.Policy) {
	t.Helper()
	b := impl.Behave{Up: sideWith(0, 3, up), Down: sideWith(1, 6, down), Min: 1, Max: 60}
	counts, changes := []int{10}, 0
	var notes []impl.Note
	var moves []impl.Move
	for now := 1; now <= 150; now++ {
		count := counts[now-1]
		want := []int{0, 5, 60, 12, manyCount, 30}[now/9*7%6]
		notes = append(notes, note(now, want))
		decided := impl.Decide(b, notes, moves, now, count, want)
		counts = append(counts, decided)
		most := counts[max(now-up.Period, 0)]
		least := counts[max(now-down.Period, 0)]
		most += []int{up.Value, shareOf(most, up.Value, true)}[up.Kind]
		least -= []int{down.Value, shareOf(least, down.Value, true)}[down.Kind]
		if decided > max(most, count) || decided < min(least, count) {
			t.Fatalf("by %+v and %+v at %d from %d to %d, beyond %d..%d", up, down, now, count, decided, least, most)
		}
		if decided != count {
			moves = append(moves, move(now, decided-count))
			changes++
		}
	}
	if changes < 5 {
		t.Errorf("only %d changes by %+v and %+v", changes, up, down)
	}
}

func TestDecisionsKeepTheirRatesOverTime(t *testing.T) {
	for _, period := range []int{1, 2, 7, 15, 40} {
		for _, n := range []int{1, 2, 5, 20, 50, 100, 101} {
			checkRates(t, byPods(n, period), byPods(n, 10))
			checkRates(t, byPods(n, 4), byPercent(n, period))
			checkRates(t, byPercent(n, period), byPods(n, period))
			checkRates(t, byPercent(n, 6), byPercent(n, period))
		}
	}
}

func TestTrimNotes(t *testing.T) {
	notes := []impl.Note{note(5, 6), note(12, 3), note(12, 4), note(20, 1)}
	cases := []struct {
		list        []impl.Note
		now, window int
		from        int
	}{
		{notes[:2], 15, 5, 1}, {notes, 15, 20, 0}, {notes, 15, 11, 0}, {notes, 15, 10, 1}, {notes, 15, 9, 1}, {notes, 15, 4, 1}, {notes, 15, 3, 3}, {notes, 15, 0, 3}, {notes, 12, 0, 3}, {notes, 11, 0, 1}, {notes, 12, 1, 1}, {notes, 20, 0, 4}, {notes, 19, 0, 3}, {notes, 20, 1, 3}, {notes, 21, 1, 4}, {notes, lastTick, longSpan, 4},
		{notes, 0, 0, 0}, {notes, 0, longSpan, 0}, {notes, 5, 0, 1}, {notes, 4, 0, 0}, {notes, longSpan + 4, longSpan, 0}, {notes, longSpan + 5, longSpan, 1}, {notes, longSpan + 20, longSpan, 4}, {nil, 15, 5, 0}, {[]impl.Note{}, 15, 5, 0}, {[]impl.Note{note(0, 0)}, 0, 1, 0}, {[]impl.Note{note(0, 0)}, 0, 0, 1}, {[]impl.Note{note(lastTick, manyCount)}, lastTick, 1, 0},
		{notesAt(ticksUpTo(longLog, 1, longLog), 3), longLog, 50, longLog - 50}, {notesAt(ticksUpTo(longLog, 1, longLog), 3), longLog, longLog, 0}, {notesAt(filled(longLog, 7), 3), 8, 2, 0}, {notesAt(filled(longLog, 7), 3), 8, 1, longLog},
	}
	for _, c := range cases {
		if got := impl.TrimNotes(c.list, c.now, c.window); !slices.Equal(got, c.list[c.from:]) {
			t.Errorf("TrimNotes(%v, %d, %d) = %v, want all from %d on", c.list, c.now, c.window, got, c.from)
		}
	}
}

func TestTrimNotesRefuses(t *testing.T) {
	refuse := func(list []impl.Note, now int, window int) {
		if got := impl.TrimNotes(list, now, window); got != nil {
			t.Errorf("TrimNotes(%v, %d, %d) = %v", list, now, window, got)
		}
	}
	notes := []impl.Note{note(5, 6), note(12, 3), note(lastTick, 4)}
	for _, bad := range noNotes() {
		refuse(bad, 0, 10)
		refuse(bad, 7, longSpan)
	}
	for _, now := range notTicks() {
		for _, window := range append(windows(), notWindows()...) {
			refuse(notes, now, window)
		}
	}
	for _, window := range notWindows() {
		for _, now := range goodTicks() {
			refuse(notes, now, window)
		}
	}
}

// spare is a copy of a list with two more elements in its memory, which an
// append to the list would write.
func spare[T any](list []T, last T) []T {
	return append(slices.Clone(list), last, last)[:len(list)]
}

func TestTrimmedNotesAreNewMemory(t *testing.T) {
	for _, notes := range goodNotes() {
		for _, now := range []int{0, 7, 100, lastTick} {
			given := spare(notes, note(-77, -77))
			got := impl.TrimNotes(given, now, 50)
			want := slices.Clone(got)
			for i := range given {
				given[i] = note(-1, -1)
			}
			if !slices.Equal(got, want) {
				t.Fatalf("TrimNotes(%v, %d, 50) shares memory", notes, now)
			}
			copy(given, notes)
			for i := range got {
				got[i] = note(-2, -2)
			}
			_ = append(got, note(-3, -3), note(-3, -3))
			if !slices.Equal(given[:len(given)+2], append(slices.Clone(notes), note(-77, -77), note(-77, -77))) {
				t.Fatalf("TrimNotes(%v, %d, 50) shares memory with its result", notes, now)
			}
		}
	}
}

// TestBehaviorsLeaveTheirArguments calls every function of the chapter.
func TestBehaviorsLeaveTheirArguments(t *testing.T) {
	policies := []impl.Policy{byPods(3, 5), byPercent(50, 10), byPods(1, 20)}
	for i, moves := range append(moveLists(), noMoves()[:9]...) {
		notes := noteLists()[i%len(noteLists())]
		for _, choice := range append(choices(), 3) {
			for n := range manyPolicies + 1 {
				up, down := spare(policies[:n], byPods(-77, -77)), spare(policies[n:], byPods(-77, -77))
				b := impl.Behave{Up: sideWith(choice, 9, up...), Down: sideWith(choice, 12, down...), Min: 1, Max: 10}
				givenNotes, givenMoves := spare(notes, note(-77, -77)), spare(moves, move(-77, -77))
				before := fmt.Sprint(b, up[:n+2], down[:manyPolicies-n+2], givenNotes[:len(notes)+2], givenMoves[:len(moves)+2])
				impl.SideOk(b.Up)
				impl.BehaveOk(b)
				impl.NotesOk(givenNotes)
				impl.MovesOk(givenMoves)
				impl.Steady(b, givenNotes, 15, 4, 9)
				impl.MovedIn(givenMoves, 15, 10)
				impl.UpBound(b.Up, givenMoves, 15, 4)
				impl.DownBound(b.Down, givenMoves, 15, 4)
				impl.LimitWant(b, givenMoves, 15, 4, 9)
				impl.Decide(b, givenNotes, givenMoves, 15, 4, 9)
				impl.TrimNotes(givenNotes, 15, 10)
				after := fmt.Sprint(b, up[:n+2], down[:manyPolicies-n+2], givenNotes[:len(notes)+2], givenMoves[:len(moves)+2])
				if after != before {
					t.Fatalf("%s became %s", before, after)
				}
			}
		}
	}
}
