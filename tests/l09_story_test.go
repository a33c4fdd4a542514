package tests

import (
	"fmt"
	"math"
	"math/big"
	"slices"
	"testing"

	"loop.example/g00808/impl"
)

func moved(at int, a int, b int) impl.Event { return event(1, at, a, b) }

func handed(at int, a int, b int) impl.Event { return event(4, at, a, b) }

// ignoredKinds are neither writes nor moves; some are so only until they are
// cut to fewer bits.
func ignoredKinds() []int {
	return []int{0, 2, 3, 5, 6, -1, -4, 257, 260, 1<<32 + 1, 1<<32 + 4, math.MinInt, math.MaxInt}
}

// askEvents checks one answer, that it is given again, and that the list stays
// as it was. Behind the list there is a move, for who reads too far.
func askEvents[R comparable](t *testing.T, name string, events []impl.Event, want R, call func([]impl.Event) R) {
	t.Helper()
	given := spare(events, moved(-77, -77, -76))
	before := shown(andRoom(given))
	if got := call(given); got != want {
		t.Errorf("%s of %+v is %v, want %v", name, events, got, want)
	}
	if again := call(given); again != want {
		t.Errorf("%s of %+v is %v the second time, want %v", name, events, again, want)
	}
	if after := shown(andRoom(given)); after != before {
		t.Errorf("%s makes the list %s %s", name, before, after)
	}
}

func askCountAfter(t *testing.T, count int, events []impl.Event, want int) {
	t.Helper()
	askEvents(t, fmt.Sprintf("CountAfter %d", count), events, want, func(list []impl.Event) int { return impl.CountAfter(count, list) })
}

func askChain(t *testing.T, count int, events []impl.Event, want bool) {
	t.Helper()
	askEvents(t, fmt.Sprintf("WritesChain from %d", count), events, want, func(list []impl.Event) bool { return impl.WritesChain(count, list) })
}

func askWithin(t *testing.T, events []impl.Event, least int, most int, want bool) {
	t.Helper()
	askEvents(t, fmt.Sprintf("MovesWithin %d..%d", least, most), events, want, func(list []impl.Event) bool { return impl.MovesWithin(list, least, most) })
}

func askSums(t *testing.T, events []impl.Event, from int, to int, rose int, fell int) {
	t.Helper()
	askEvents(t, fmt.Sprintf("RoseBetween %d and %d", from, to), events, rose, func(list []impl.Event) int { return impl.RoseBetween(list, from, to) })
	askEvents(t, fmt.Sprintf("FellBetween %d and %d", from, to), events, fell, func(list []impl.Event) int { return impl.FellBetween(list, from, to) })
}

func askFlaps(t *testing.T, events []impl.Event, window int, want int) {
	t.Helper()
	askEvents(t, fmt.Sprintf("FlapsIn %d ticks", window), events, want, func(list []impl.Event) int { return impl.FlapsIn(list, window) })
}

func askDirections(t *testing.T, events []impl.Event, first int, neverFell bool, neverRose bool) {
	t.Helper()
	askEvents(t, "FirstMove", events, first, impl.FirstMove)
	askEvents(t, "NeverFell", events, neverFell, impl.NeverFell)
	askEvents(t, "NeverRose", events, neverRose, impl.NeverRose)
}

// documentEvents are those of the document's example of a herd, and more.
func documentEvents() []impl.Event {
	return []impl.Event{event(0, 10, 2, 0), moved(10, 2, 4), handed(10, 4, 2), event(0, 30, 2, 0), event(2, 30, 2, 4), event(3, 31, 0, 0), moved(35, 2, 1)}
}

// quietLists have no writes.
func quietLists() [][]impl.Event {
	list := [][]impl.Event{nil, {}, {event(0, 10, 2, 4), event(2, 10, 2, 4), event(3, 12, 2, 4)}}
	for _, kind := range ignoredKinds() {
		list = append(list, []impl.Event{event(kind, 10, 2, 4)}, []impl.Event{event(kind, 10, 4, 2), event(kind, 10, 3, 3)}, slices.Repeat([]impl.Event{event(kind, 5, 0, 1)}, 300))
	}
	return list
}

func TestListsWithoutWrites(t *testing.T) {
	for _, events := range quietLists() {
		for _, count := range append(counts(), math.MinInt, -1, math.MaxInt) {
			askCountAfter(t, count, events, count)
			askChain(t, count, events, true)
		}
		askWithin(t, events, 0, 0, true)
		askWithin(t, events, 5, -5, true)
		askSums(t, events, math.MinInt, math.MaxInt, 0, 0)
		askFlaps(t, events, math.MaxInt, 0)
		askDirections(t, events, -1, true, true)
	}
}

func TestListsWithoutMoves(t *testing.T) {
	for _, events := range [][]impl.Event{{handed(10, 2, 4)}, {handed(10, 2, 4), handed(10, 4, 4), handed(12, 4, 1)}, {event(3, 9, 5, 5), handed(10, 2, 4), event(2, 10, 4, 8)}} {
		askChain(t, 2, events, true)
		askChain(t, 3, events, false)
		askWithin(t, events, 900, 901, true)
		askWithin(t, events, 5, -5, true)
		askSums(t, events, math.MinInt, math.MaxInt, 0, 0)
		askFlaps(t, events, math.MaxInt, 0)
		askDirections(t, events, -1, true, true)
	}
}

func TestCountAfter(t *testing.T) {
	for _, c := range []struct {
		events []impl.Event
		want   int
	}{
		{documentEvents(), 1}, {documentEvents()[:6], 2}, {documentEvents()[:2], 4}, {documentEvents()[:1], 7},
		{[]impl.Event{moved(3, 2, 4)}, 4}, {[]impl.Event{handed(3, 2, 4)}, 4}, {[]impl.Event{handed(3, 2, 4), moved(3, 4, 5)}, 5}, {[]impl.Event{moved(3, 2, 4), handed(3, 4, 0)}, 0},
		{[]impl.Event{moved(3, 2, 4), event(2, 4, 4, 8)}, 4}, {[]impl.Event{event(2, 2, 2, 8), moved(3, 2, 4)}, 4}, {[]impl.Event{moved(3, 2, 2)}, 2}, {[]impl.Event{handed(3, 2, 2)}, 2},
		// The last write is that which comes last in the list, not in time, and need not fit.
		{[]impl.Event{moved(9, 2, 4), moved(3, 2, 6)}, 6}, {[]impl.Event{moved(3, 8, 9), handed(3, 1, 5)}, 5}, {[]impl.Event{moved(-5, 0, -3)}, -3}, {[]impl.Event{moved(0, 0, math.MinInt)}, math.MinInt}, {[]impl.Event{handed(0, 0, math.MaxInt)}, math.MaxInt},
	} {
		askCountAfter(t, 7, c.events, c.want)
	}
}

func TestWritesChain(t *testing.T) {
	for _, c := range []struct {
		events []impl.Event
		want   bool
	}{
		{documentEvents(), true}, {documentEvents()[2:], false}, {documentEvents()[3:], true},
		{[]impl.Event{moved(3, 2, 4)}, true}, {[]impl.Event{moved(3, 4, 2)}, false}, {[]impl.Event{handed(3, 2, 4)}, true}, {[]impl.Event{handed(3, 3, 4)}, false}, {[]impl.Event{moved(3, 3, 2)}, false},
		{[]impl.Event{moved(3, 2, 2)}, false}, {[]impl.Event{handed(3, 2, 2)}, true}, {[]impl.Event{handed(3, 3, 3)}, false}, {[]impl.Event{handed(3, 2, 2), handed(3, 2, 2), moved(3, 2, 1)}, true}, {[]impl.Event{handed(3, 2, 2), moved(3, 2, 2)}, false}, {[]impl.Event{moved(3, 2, 2), moved(3, 2, 3)}, false},
		{[]impl.Event{moved(3, 2, 4), moved(3, 4, 2), moved(3, 2, 4)}, true}, {[]impl.Event{moved(3, 2, 4), moved(3, 2, 4)}, false}, {[]impl.Event{moved(3, 2, 4), handed(3, 4, 9), moved(5, 9, 8)}, true}, {[]impl.Event{moved(3, 2, 4), handed(3, 4, 9), moved(5, 4, 8)}, false}, {[]impl.Event{handed(3, 2, 9), moved(5, 2, 8)}, false},
		// A write that failed, like all other events, is no write, whatever its numbers are.
		{[]impl.Event{moved(3, 2, 4), event(2, 4, 4, 8), moved(4, 4, 5)}, true}, {[]impl.Event{event(2, 3, 2, 4), moved(4, 4, 5)}, false}, {[]impl.Event{event(2, 3, 9, 9), moved(4, 2, 5), event(2, 5, 9, 9)}, true}, {[]impl.Event{event(3, 3, 7, 8), event(0, 3, 1, 1), handed(4, 2, 5)}, true},
		{[]impl.Event{moved(0, 2, math.MinInt), moved(0, math.MinInt, math.MaxInt), handed(0, math.MaxInt, -1), moved(0, -1, 0)}, true},
	} {
		askChain(t, 2, c.events, c.want)
	}
}

// chained are n writes in a chain from 2, of which every third is an override.
func chained(n int) []impl.Event {
	var list []impl.Event
	count := 2
	for i := range n {
		next := count + 1 + i%4
		if i%2 == 1 {
			next = max(count-2, 0)
		}
		kind := 1
		if i%3 == 2 {
			kind = 4
		}
		list = append(list, event(kind, 10+i/2, count, next))
		count = next
	}
	return list
}

func TestChainsThatBreak(t *testing.T) {
	for _, n := range []int{1, 2, 3, 4, 7, 50} {
		askChain(t, 2, chained(n), true)
		for place := range n {
			for _, by := range []int{-1, 1, 500} {
				broken := chained(n)
				broken[place].A += by
				askChain(t, 2, broken, false)
				broken = chained(n)
				broken[place].B += by
				// Nothing follows the last write, unless it no longer changes anything.
				last := place == n-1 && (broken[place].Kind == 4 || broken[place].A != broken[place].B)
				askChain(t, 2, broken, last)
			}
			missing := slices.Delete(chained(n), place, place+1)
			askChain(t, 2, missing, place == n-1)
			for _, kind := range []int{1, 4} {
				same := chained(n)[place].A
				idle := slices.Insert(chained(n), place, event(kind, 10+place/2, same, same))
				askChain(t, 2, idle, kind == 4)
			}
			end := chained(n)[n-1]
			askChain(t, 2, append(chained(n), moved(end.At, end.B, end.B)), false)
			askChain(t, 2, append(chained(n), handed(end.At, end.B, end.B)), true)
		}
	}
}

func TestTimesOfChains(t *testing.T) {
	kinds := append([]int{1, 4}, ignoredKinds()...)
	for _, first := range kinds {
		for _, second := range kinds {
			a, b := event(first, 10, 2, 4), event(second, 10, 2, 4)
			if (first == 1 || first == 4) && (second == 1 || second == 4) {
				b.A, b.B = 4, 5
			}
			for at, want := range map[int]bool{math.MinInt: false, -1: false, 0: false, 9: false, 10: true, 11: true, lastTick: true, math.MaxInt: true} {
				b.At = at
				askChain(t, 2, []impl.Event{a, b}, want)
			}
		}
	}
	for _, ats := range [][]int{{0, 0, 0, 0, 0}, {1, 1, 2, 2, 9}, {-9, -8, -8, 0, 1}, {math.MinInt, -1, 0, 1, math.MaxInt}, {5, 6, 7, 8, 9}} {
		list := chained(5)
		for i := range list {
			list[i].At = ats[i]
		}
		askChain(t, 2, list, true)
		for _, kind := range ignoredKinds() {
			for place := range list {
				early := slices.Insert(slices.Clone(list), place, event(kind, ats[place], 0, 0))
				askChain(t, 2, early, true)
				if place > 0 && ats[place-1] > math.MinInt {
					early[place].At = ats[place-1] - 1
					askChain(t, 2, early, false)
				}
			}
		}
	}
}

func TestMovesWithin(t *testing.T) {
	events := []impl.Event{moved(1, 2, 4), handed(2, 4, 900), moved(3, 900, 10), event(2, 4, 10, 20), moved(5, 10, 7), handed(6, 7, 0), event(0, 7, 0, 0), event(9, 7, 0, 999)}
	for _, c := range []struct {
		least, most int
		want        bool
	}{
		{4, 10, true}, {3, 11, true}, {0, manyCount, true}, {math.MinInt, math.MaxInt, true}, {4, 11, true}, {3, 10, true},
		{5, 10, false}, {4, 9, false}, {5, 9, false}, {7, 10, false}, {4, 7, false}, {10, 4, false}, {11, 3, false}, {-10, -4, false}, {11, 20, false}, {0, 3, false}, {math.MaxInt, math.MinInt, false},
	} {
		askWithin(t, events, c.least, c.most, c.want)
	}
	for _, b := range []int{math.MinInt, -1, 0, 1, 5, manyCount, math.MaxInt} {
		one := []impl.Event{moved(1, 3, b)}
		askWithin(t, one, b, b, true)
		askWithin(t, one, math.MinInt, math.MaxInt, true)
		if b > math.MinInt {
			askWithin(t, one, math.MinInt, b-1, false)
			askWithin(t, one, b-1, b, true)
		}
		if b < math.MaxInt {
			askWithin(t, one, b+1, math.MaxInt, false)
			askWithin(t, one, b, b+1, true)
			askWithin(t, one, b+1, b, false)
		}
	}
	// The A of a move may be beyond: it is where the count came from.
	askWithin(t, []impl.Event{moved(1, 900, 10), moved(2, 0, 4)}, 4, 10, true)
	for place := range 9 {
		for _, b := range []int{3, 11} {
			list := slices.Repeat([]impl.Event{moved(1, 5, 6)}, 9)
			list[place].B = b
			askWithin(t, list, 4, 10, false)
			list[place].Kind = 4
			askWithin(t, list, 4, 10, true)
		}
	}
}

func TestRoseAndFellBetween(t *testing.T) {
	events := []impl.Event{moved(9, 1, 4), moved(10, 4, 2), moved(11, 2, 9), event(2, 11, 9, 500), moved(11, 9, 8), handed(12, 8, 400), moved(20, 400, 300), moved(20, 300, 300), moved(21, 300, 303), event(7, 21, 0, 70), event(0, 21, 70, 0), moved(30, 303, 300)}
	for _, c := range []struct{ from, to, rose, fell int }{
		{math.MinInt, math.MaxInt, 13, 106}, {-1, 30, 13, 106}, {8, 30, 13, 106}, {9, 30, 10, 106}, {10, 30, 10, 104}, {11, 30, 3, 103}, {11, 29, 3, 100}, {20, 30, 3, 3}, {21, 30, 0, 3}, {30, 40, 0, 0}, {29, 40, 0, 3}, {29, 30, 0, 3}, {30, 30, 0, 0},
		{8, 9, 3, 0}, {9, 10, 0, 2}, {8, 10, 3, 2}, {10, 11, 7, 1}, {9, 11, 7, 3}, {11, 12, 0, 0}, {11, 19, 0, 0}, {11, 20, 0, 100}, {19, 20, 0, 100}, {19, 21, 3, 100}, {20, 21, 3, 0}, {7, 8, 0, 0},
		{9, 9, 0, 0}, {10, 9, 0, 0}, {11, 10, 0, 0}, {30, 8, 0, 0}, {math.MaxInt, math.MinInt, 0, 0}, {20, 20, 0, 0}, {21, 20, 0, 0}, {20, 19, 0, 0},
	} {
		askSums(t, events, c.from, c.to, c.rose, c.fell)
	}
	askSums(t, documentEvents(), -1, 50, 2, 1)
	askSums(t, documentEvents(), -1, 34, 2, 0)
	for _, at := range []int{math.MinInt + 1, -5, 0, 10, lastTick, math.MaxInt - 1} {
		askSums(t, []impl.Event{moved(at, 2, 7)}, at-1, at, 5, 0)
		askSums(t, []impl.Event{moved(at, 7, 2)}, at-1, at, 0, 5)
		askSums(t, []impl.Event{moved(at, 7, 2), moved(at, 2, 7)}, at, at+1, 0, 0)
		askSums(t, []impl.Event{moved(at, 7, 2), moved(at, 2, 7)}, at-1, at-1, 0, 0)
		askSums(t, []impl.Event{moved(at, 7, 2), moved(at, 2, 7)}, math.MinInt, math.MaxInt, 5, 5)
		askSums(t, []impl.Event{handed(at, 7, 2), handed(at, 2, 9)}, math.MinInt, math.MaxInt, 0, 0)
	}
	// Only the Ats decide, in whatever order they are.
	askSums(t, []impl.Event{moved(30, 0, 1), moved(10, 0, 20), moved(20, 0, 300), moved(11, 300, 0)}, 10, 20, 300, 300)
	askSums(t, []impl.Event{moved(1, -3, 4), moved(1, 4, -9)}, 0, 1, 7, 13)
	askSums(t, []impl.Event{moved(1, 0, math.MaxInt), moved(1, 0, -math.MaxInt)}, 0, 1, math.MaxInt, math.MaxInt)
}

func TestFlapsIn(t *testing.T) {
	example := []impl.Event{moved(1, 1, 2), moved(5, 3, 2)}
	askFlaps(t, example, 4, 1)
	askFlaps(t, example, 3, 0)
	up, down, same := moved(10, 2, 4), moved(10, 4, 2), moved(10, 3, 3)
	at := func(e impl.Event, at int) impl.Event { e.At = at; return e }
	for _, c := range []struct {
		events []impl.Event
		window int
		want   int
	}{
		{[]impl.Event{up}, 1000, 0}, {[]impl.Event{down}, 1000, 0}, {[]impl.Event{same}, 1000, 0},
		{[]impl.Event{up, down}, 0, 1}, {[]impl.Event{down, up}, 0, 1}, {[]impl.Event{up, up}, 0, 0}, {[]impl.Event{down, down}, 0, 0}, {[]impl.Event{up, down}, -1, 0},
		// What changes nothing goes down.
		{[]impl.Event{up, same}, 0, 1}, {[]impl.Event{same, up}, 0, 1}, {[]impl.Event{down, same}, 0, 0}, {[]impl.Event{same, down}, 0, 0}, {[]impl.Event{same, same}, 0, 0}, {[]impl.Event{up, same, up}, 0, 2}, {[]impl.Event{down, same, down}, 0, 0}, {[]impl.Event{up, same, down}, 0, 1},
		{[]impl.Event{up, at(down, 14)}, 4, 1}, {[]impl.Event{up, at(down, 15)}, 4, 0}, {[]impl.Event{up, at(down, 13)}, 4, 1}, {[]impl.Event{down, at(up, 14)}, 4, 1}, {[]impl.Event{down, at(up, 15)}, 4, 0}, {[]impl.Event{down, at(up, 11)}, 0, 0}, {[]impl.Event{down, at(up, 11)}, 1, 1},
		// It is the previous move that counts, even if it is in the same direction or too far away.
		{[]impl.Event{up, at(up, 19), at(down, 20)}, 1, 1}, {[]impl.Event{down, at(up, 11), at(up, 30), at(down, 31)}, 5, 2}, {[]impl.Event{up, at(down, 20), at(up, 22)}, 5, 1}, {[]impl.Event{up, at(down, 12), at(up, 30)}, 5, 1}, {[]impl.Event{up, at(down, 12), at(up, 14), at(down, 16)}, 2, 3}, {[]impl.Event{up, at(down, 12), at(up, 15), at(down, 17)}, 2, 2}, {[]impl.Event{up, at(down, 12), at(down, 13), at(up, 14)}, 2, 2},
		// Other events neither are moves nor separate them.
		{[]impl.Event{up, handed(11, 4, 9), at(down, 12)}, 2, 1}, {[]impl.Event{up, handed(11, 4, 1), at(up, 12)}, 2, 0}, {[]impl.Event{up, event(2, 11, 4, 1), event(0, 11, 9, 1), event(3, 11, 0, 0), event(8, 12, 5, 1), at(down, 12)}, 2, 1}, {[]impl.Event{handed(9, 5, 2), up, event(2, 11, 4, 1)}, 2, 0},
		{[]impl.Event{at(up, lastTick-1), at(down, lastTick)}, 1, 1}, {[]impl.Event{at(up, 0), at(down, lastTick)}, lastTick, 1}, {[]impl.Event{at(up, 0), at(down, lastTick)}, lastTick - 1, 0}, {[]impl.Event{at(up, 0), at(down, lastTick)}, math.MaxInt, 1}, {[]impl.Event{at(up, lastTick), at(down, lastTick)}, math.MaxInt, 1}, {[]impl.Event{up, down}, math.MinInt, 0},
		{[]impl.Event{up, at(down, 8)}, 0, 1}, {[]impl.Event{up, at(down, 8)}, -2, 1}, {[]impl.Event{up, at(down, 8)}, -3, 0},
		{[]impl.Event{at(up, math.MinInt), at(down, math.MaxInt)}, math.MaxInt, 0}, {[]impl.Event{at(up, math.MaxInt), at(down, math.MinInt)}, math.MinInt, 1}, {[]impl.Event{at(up, -1), at(down, math.MaxInt)}, math.MaxInt, 0}, {[]impl.Event{at(up, 0), at(down, math.MaxInt)}, math.MaxInt, 1}, {[]impl.Event{at(up, 1), at(down, math.MinInt)}, 0, 1},
		{[]impl.Event{moved(10, math.MinInt, math.MaxInt), moved(10, math.MaxInt, math.MinInt)}, 0, 1}, {[]impl.Event{moved(10, math.MinInt, math.MaxInt), up}, 0, 0}, {[]impl.Event{moved(10, math.MaxInt, math.MinInt), down}, 0, 0},
	} {
		askFlaps(t, c.events, c.window, c.want)
	}
}

func TestDirectionsOfMoves(t *testing.T) {
	for _, c := range []struct {
		events               []impl.Event
		first                int
		neverFell, neverRose bool
	}{
		{documentEvents(), 10, false, false}, {documentEvents()[:6], 10, true, false}, {documentEvents()[2:], 35, false, true},
		{[]impl.Event{moved(3, 2, 4)}, 3, true, false}, {[]impl.Event{moved(3, 4, 2)}, 3, false, true}, {[]impl.Event{moved(3, 4, 5)}, 3, true, false}, {[]impl.Event{moved(3, 4, 3)}, 3, false, true},
		// What changes nothing goes down.
		{[]impl.Event{moved(3, 4, 4)}, 3, false, true}, {[]impl.Event{moved(3, 0, 0)}, 3, false, true}, {[]impl.Event{moved(3, 2, 4), moved(4, 4, 4)}, 3, false, false},
		{[]impl.Event{handed(1, 9, 2), moved(3, 2, 4)}, 3, true, false}, {[]impl.Event{handed(1, 2, 9), moved(3, 9, 4)}, 3, false, true}, {[]impl.Event{moved(3, 2, 4), handed(4, 4, 2), moved(5, 2, 6)}, 3, true, false}, {[]impl.Event{moved(3, 4, 2), handed(4, 2, 8), moved(5, 8, 6)}, 3, false, true}, {[]impl.Event{handed(4, 2, 8), handed(5, 8, 3), handed(6, 3, 3)}, -1, true, true},
		{[]impl.Event{event(2, 1, 9, 2), event(0, 1, 2, 1), moved(3, 2, 4), event(3, 4, 0, 0)}, 3, true, false}, {[]impl.Event{event(2, 1, 2, 9), event(0, 1, 1, 2), moved(3, 4, 2), event(-1, 4, 0, 9)}, 3, false, true},
		{[]impl.Event{moved(9, 2, 4), moved(3, 4, 5)}, 9, true, false}, {[]impl.Event{moved(0, 2, 4), moved(3, 4, 5), moved(3, 5, 4)}, 0, false, false}, {[]impl.Event{moved(lastTick, 2, 4)}, lastTick, true, false}, {[]impl.Event{moved(-7, 2, 1)}, -7, false, true}, {[]impl.Event{moved(math.MinInt, 2, 1)}, math.MinInt, false, true},
		{[]impl.Event{moved(1, math.MinInt, math.MaxInt)}, 1, true, false}, {[]impl.Event{moved(1, math.MaxInt, math.MinInt)}, 1, false, true}, {[]impl.Event{moved(1, -5, -4)}, 1, true, false}, {[]impl.Event{moved(1, -4, -5)}, 1, false, true},
	} {
		askDirections(t, c.events, c.first, c.neverFell, c.neverRose)
	}
	for place := range 9 {
		rising, falling := slices.Repeat([]impl.Event{moved(6, 2, 4)}, 9), slices.Repeat([]impl.Event{moved(6, 4, 2)}, 9)
		rising[place].B, falling[place].B = 1, 5
		askDirections(t, rising, 6, false, false)
		askDirections(t, falling, 6, false, false)
	}
}

// answers is what a list of events tells, all in one.
type answers struct {
	after                int
	chain, within        bool
	rose, fell, flaps    int
	first                int
	neverFell, neverRose bool
}

func answersOf(count int, events []impl.Event, from int, to int, window int) answers {
	return answers{
		impl.CountAfter(count, events), impl.WritesChain(count, events), impl.MovesWithin(events, from, to),
		impl.RoseBetween(events, from, to), impl.FellBetween(events, from, to), impl.FlapsIn(events, window),
		impl.FirstMove(events), impl.NeverFell(events), impl.NeverRose(events),
	}
}

// Events of other kinds change no answer, wherever they are.
func TestEventsOfOtherKinds(t *testing.T) {
	lists := [][]impl.Event{documentEvents(), chained(1), chained(6), {moved(1, 1, 2), moved(5, 2, 1)}, {moved(3, 2, 2)}, {handed(3, 2, 5), moved(4, 5, 5)}}
	for _, list := range lists {
		for _, window := range []int{0, 4, 100} {
			want := answersOf(2, list, 1, 20, window)
			for _, kind := range ignoredKinds() {
				for place := range len(list) + 1 {
					at := list[max(place-1, 0)].At
					for _, e := range []impl.Event{event(kind, at, 1, 30), event(kind, at, 30, 1), event(kind, at, 2, 2)} {
						given := slices.Insert(slices.Clone(list), place, e)
						if got := answersOf(2, given, 1, 20, window); got != want {
							t.Errorf("%+v tells %+v, want %+v", given, got, want)
						}
					}
				}
			}
		}
	}
}

func TestLongListsOfEvents(t *testing.T) {
	const n = 200000
	var events []impl.Event
	for i := range n {
		events = append(events, event(0, i, 5, 5), moved(i, 3+i%2, 4-i%2))
	}
	if got := answersOf(3, events, -1, n, 1); got != (answers{3, true, true, n / 2, n / 2, n - 1, 0, false, false}) {
		t.Errorf("a long list tells %+v", got)
	}
	events[2*n-1].A = 9
	if impl.WritesChain(3, events) {
		t.Error("a long list breaks at its last write")
	}
	if got := answersOf(3, slices.Repeat([]impl.Event{event(2, 4, 1, 9)}, n), -1, n, 1); got != (answers{3, true, true, 0, 0, 0, -1, true, true}) {
		t.Errorf("a long list without writes tells %+v", got)
	}
}

// kindsOnly has the events of some kinds.
func kindsOnly(events []impl.Event, kinds ...int) []impl.Event {
	var list []impl.Event
	for _, e := range events {
		if slices.Contains(kinds, e.Kind) {
			list = append(list, e)
		}
	}
	return list
}

func chainByRule(count int, events []impl.Event) bool {
	for _, w := range kindsOnly(events, 1, 4) {
		if w.A != count || w.Kind == 1 && w.A == w.B {
			return false
		}
		count = w.B
	}
	for i := range events {
		if i > 0 && events[i-1].At > events[i].At {
			return false
		}
	}
	return true
}

func flapsByRule(events []impl.Event, window int) int {
	flaps := 0
	moves := kindsOnly(events, 1)
	for i, m := range moves {
		if i == 0 {
			continue
		}
		p := moves[i-1]
		gap := new(big.Int).Sub(big.NewInt(int64(m.At)), big.NewInt(int64(p.At)))
		if (m.B > m.A) != (p.B > p.A) && gap.Cmp(big.NewInt(int64(window))) <= 0 {
			flaps++
		}
	}
	return flaps
}

func answersByRule(count int, events []impl.Event, from int, to int, window int) answers {
	a := answers{count, chainByRule(count, events), true, 0, 0, flapsByRule(events, window), -1, true, true}
	for _, w := range kindsOnly(events, 1, 4) {
		a.after = w.B
	}
	for i, m := range kindsOnly(events, 1) {
		if i == 0 {
			a.first = m.At
		}
		if m.B < from || m.B > to {
			a.within = false
		}
		inside := m.At > from && m.At <= to
		if m.B > m.A {
			a.neverRose = false
		} else {
			a.neverFell = false
		}
		if inside && m.B > m.A {
			a.rose += m.B - m.A
		}
		if inside && m.B < m.A {
			a.fell += m.A - m.B
		}
	}
	return a
}

// randomEvents mostly chain, in order of time.
func randomEvents(d *dice) []impl.Event {
	var list []impl.Event
	at, count := d.roll(5), 2
	mistakes := pick(d, 1, 1, 40)
	for range pick(d, 0, 1, 2, 3, 5, 8, 20, 60) {
		e := event(pick(d, 0, 1, 1, 1, 1, 2, 3, 4, 4, 5, -1), at, count, d.roll(8))
		switch d.roll(30 * mistakes) {
		case 0:
			e.At--
		case 1:
			e.A++
		case 2:
			e.B = e.A
		}
		if e.Kind == 1 && e.B == e.A && d.roll(10) > 0 {
			e.B++
		}
		if e.Kind == 1 || e.Kind == 4 {
			count = e.B
		}
		list = append(list, e)
		at = e.At + pick(d, 0, 0, 1, 1, 2, 7)
	}
	return list
}

func TestRandomEventsFollowTheRule(t *testing.T) {
	d := &dice{7}
	seen := map[string]int{}
	for range 20000 {
		events := randomEvents(d)
		from, to, window := d.roll(30)-2, d.roll(60)-2, d.roll(9)-1
		want := answersByRule(2, events, from, to, window)
		if got := answersOf(2, events, from, to, window); got != want {
			t.Fatalf("%+v with %d, %d, %d tells %+v, want %+v", events, from, to, window, got, want)
		}
		for name, holds := range map[string]bool{"chain": want.chain, "within": want.within, "rose": want.rose > 0, "fell": want.fell > 0, "flaps": want.flaps > 0, "moves": want.first >= 0, "fall": want.neverFell, "rise": want.neverRose} {
			seen[fmt.Sprint(name, " ", holds)]++
		}
	}
	for key, n := range seen {
		if n < 500 {
			t.Errorf("%s came %d times", key, n)
		}
	}
	if len(seen) != 16 {
		t.Errorf("answers %v", seen)
	}
}

func TestOpsOf(t *testing.T) {
	several := []impl.Op{lookOp(), tickOp(1), lookOp(), tickOp(1001), handsOp(-1), lookOp(), {Kind: -3}, {Kind: -3}, scrapeOp("x"), podsOp(podsNamed("b", "a")...), setupOp(impl.Setup{}), faultsOp(77), {Kind: 8}, {Kind: math.MaxInt}, {Kind: 256 + 7}, {Kind: 1<<32 + 7}}
	lists := map[string][]impl.Op{"none": nil, "empty": {}, "one": {lookOp()}, "all kinds": allKindsOfOps(), "several": several, "the most": slices.Repeat(several, 12), "more than MaxOps": slices.Repeat(allKindsOfOps(), 500)}
	for name, ops := range lists {
		given := make([]impl.Op, 0, len(ops)+2)
		for _, op := range append(slices.Clone(ops), lookOp(), lookOp()) {
			given = append(given, roomyOp(op))
		}
		before := roomTextOfOps(given)
		given = given[:len(ops)]
		for _, kind := range []int{0, 1, 2, 3, 4, 5, 6, 7, 8, 9, -1, -3, 263, 1<<32 + 7, math.MinInt, math.MaxInt} {
			want := 0
			for _, op := range ops {
				if op.Kind == kind {
					want++
				}
			}
			if got := impl.OpsOf(given, kind); got != want {
				t.Errorf("OpsOf %s of kind %d is %d, want %d", name, kind, got, want)
			}
		}
		if roomTextOfOps(andRoom(given)) != before {
			t.Errorf("OpsOf %s changes its argument", name)
		}
	}
	if looks, ticks, none, much := impl.OpsOf(several, 7), impl.OpsOf(several, 0), impl.OpsOf(several, 6), impl.OpsOf(slices.Repeat(several, 100), 7); looks != 3 || ticks != 2 || none != 0 || much != 300 {
		t.Errorf("OpsOf several is %d, %d, %d, and %d of more", looks, ticks, none, much)
	}
}

func roomTextOfOps(ops []impl.Op) string {
	text := ""
	for _, op := range ops {
		text += roomTextOfOp(op)
	}
	return text
}
