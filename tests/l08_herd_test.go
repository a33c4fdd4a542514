package tests

import (
	"fmt"
	"math"
	"slices"
	"strings"
	"testing"

	"loop.example/g00808/impl"
)

const (
	manyOps    = 200
	manyFaults = 10
)

func TestLimitsOfHerds(t *testing.T) {
	if impl.MaxOps != manyOps {
		t.Errorf("limit %d", impl.MaxOps)
	}
	conds := []int{impl.CondNone, impl.CondOff, impl.CondBlind, impl.CondSteady, impl.CondMoved, impl.CondFault}
	if codes := []int{impl.OpDone, impl.OpIdle, impl.OpBad}; !slices.Equal(conds, []int{0, 1, 2, 3, 4, 5}) || !slices.Equal(codes, []int{0, 1, 2}) {
		t.Errorf("conditions %v, codes %v", conds, codes)
	}
}

func oneSample(pod string, at int, size int) impl.Series {
	return seriesAt(pod, "cpu", impl.Point{At: at, Value: size})
}

// busyHerd is that of the document's example before its first look: of two pods
// each uses twice its target.
func busyHerd() impl.Herd {
	return impl.Herd{Setup: impl.DefaultSetup(), Now: 10, Count: 2, Pods: []impl.Pod{readyAt("p1", 0), readyAt("p2", 0)}, Store: []impl.Series{oneSample("p1", 10, 2000), oneSample("p2", 10, 2000)}}
}

// fullHerd has no field that is zero.
func fullHerd() impl.Herd {
	h := busyHerd()
	h.Setup.Goals = goalsOf("cpu", "ram")
	h.Rev, h.Cond, h.Faults = 7, impl.CondMoved, 3
	h.Notes, h.Moves = []impl.Note{note(3, 4), note(9, 2)}, []impl.Move{move(4, 1), move(9, -1)}
	return h
}

func TestHerdOfTheDocument(t *testing.T) {
	steps := []struct {
		op     impl.Op
		code   int
		events string
		text   string
	}{
		{podsOp(readyAt("p1", 0), readyAt("p2", 0)), impl.OpDone, "", "0 count 2 rev 0 pods 2 points 0 none"},
		{tickOp(10), impl.OpDone, "", "10 count 2 rev 0 pods 2 points 0 none"},
		{scrapeOp("p1 cpu 2 10\np2 cpu 2 10\n"), impl.OpDone, "10: scraped 2 bad 0", "10 count 2 rev 0 pods 2 points 2 none"},
		{lookOp(), impl.OpDone, "10: moved 2 to 4", "10 count 4 rev 1 pods 2 points 2 moved"},
		{lookOp(), impl.OpIdle, "", "10 count 4 rev 1 pods 2 points 2 steady"},
		{faultsOp(1), impl.OpDone, "", "10 count 4 rev 1 pods 2 points 2 steady"},
		{handsOp(2), impl.OpDone, "10: hands 4 to 2", "10 count 2 rev 2 pods 2 points 2 steady"},
		{tickOp(20), impl.OpDone, "", "30 count 2 rev 2 pods 2 points 2 steady"},
		{scrapeOp("p1 cpu 2 30\np2 cpu 2 30\n"), impl.OpDone, "30: scraped 2 bad 0", "30 count 2 rev 2 pods 2 points 4 steady"},
		{lookOp(), impl.OpIdle, "30: failed 2 to 4", "30 count 2 rev 2 pods 2 points 4 fault"},
		{lookOp(), impl.OpDone, "30: moved 2 to 4", "30 count 4 rev 3 pods 2 points 4 moved"},
		{restartOp(), impl.OpDone, "30: restart", "30 count 4 rev 3 pods 2 points 0 none"},
		{lookOp(), impl.OpIdle, "", "30 count 4 rev 3 pods 2 points 0 blind"},
		{handsOp(0), impl.OpDone, "30: hands 4 to 0", "30 count 0 rev 4 pods 2 points 0 blind"},
		{lookOp(), impl.OpIdle, "", "30 count 0 rev 4 pods 2 points 0 off"},
		{impl.Op{Kind: 9}, impl.OpBad, "", "30 count 0 rev 4 pods 2 points 0 off"},
	}
	h, ok := impl.NewHerd(impl.DefaultSetup(), 2)
	if text := impl.HerdText(h); !ok || text != "0 count 2 rev 0 pods 0 points 0 none" {
		t.Errorf("the new herd is %q, %v", text, ok)
	}
	for i, s := range steps {
		next, events, code := impl.StepHerd(h, s.op)
		var texts []string
		for _, e := range events {
			texts = append(texts, impl.EventText(e))
		}
		if got := strings.Join(texts, ", "); got != s.events || code != s.code || impl.HerdText(next) != s.text {
			t.Errorf("step %d gives %q, %d and %q, want %q, %d and %q", i, got, code, impl.HerdText(next), s.events, s.code, s.text)
		}
		h = next
	}
}

func TestNewHerd(t *testing.T) {
	for i, s := range goodSetups() {
		count := counts()[i%len(counts())]
		given := roomySetup(s)
		before := roomText(given)
		got, ok := impl.NewHerd(given, count)
		if want := (impl.Herd{Setup: s, Count: count}); !ok || shown(got) != shown(want) || !impl.HerdOk(got) {
			t.Errorf("NewHerd(%+v, %d) = %+v, %v", s, count, got, ok)
		}
		checkHerdApart(t, "NewHerd", got)
		if roomText(given) != before {
			t.Errorf("NewHerd(%+v, %d) shares memory", s, count)
		}
	}
	for _, count := range counts() {
		if got, ok := impl.NewHerd(impl.DefaultSetup(), count); !ok || shown(got) != shown(impl.Herd{Setup: impl.DefaultSetup(), Count: count}) {
			t.Errorf("NewHerd of %d = %+v, %v", count, got, ok)
		}
	}
}

// noPlays are invalid arguments of NewHerd.
func noPlays(call func(s impl.Setup, count int)) {
	for _, s := range badSetups() {
		call(s, 2)
	}
	for _, count := range notCounts() {
		call(impl.DefaultSetup(), count)
	}
	call(impl.Setup{}, -1)
}

func TestNewHerdRefuses(t *testing.T) {
	noPlays(func(s impl.Setup, count int) {
		if got, ok := impl.NewHerd(s, count); ok || shown(got) != shown(impl.Herd{}) {
			t.Errorf("NewHerd(%+v, %d) = %+v, %v", s, count, got, ok)
		}
	})
}

func conds() []int { return []int{0, 1, 2, 3, 4, 5} }

func notConds() []int { return []int{math.MinInt, -2, -1, 6, 7, 256, 1 << 32, math.MaxInt} }

func notFaults() []int {
	return []int{math.MinInt, -10, -1, manyFaults + 1, limit, 1<<32 + 1, math.MaxInt}
}

// goodHerds have every field at both limits beside ordinary ones.
func goodHerds() []impl.Herd {
	list := []impl.Herd{busyHerd(), fullHerd(), {Setup: impl.DefaultSetup()}, {Setup: setupOf(goalsOf("cpu")...), Pods: []impl.Pod{}, Store: []impl.Series{}, Notes: []impl.Note{}, Moves: []impl.Move{}}}
	add := func(change func(*impl.Herd)) {
		list = append(list, with(busyHerd(), change), with(fullHerd(), func(h *impl.Herd) {
			h.Now = lastTick
			change(h)
		}))
	}
	for _, s := range goodSetups() {
		add(func(h *impl.Herd) { h.Setup = s })
	}
	for _, at := range goodTicks() {
		add(func(h *impl.Herd) { h.Now, h.Notes, h.Moves = at, nil, nil })
		add(func(h *impl.Herd) { h.Rev = at })
		add(func(h *impl.Herd) { h.Now, h.Notes, h.Moves = at, notesAt([]int{at}, 3), movesAt([]int{at}, 3) })
		add(func(h *impl.Herd) {
			h.Now, h.Notes, h.Moves = at, notesAt([]int{0, at}, 3), movesAt([]int{0, at, at}, 3)
		})
	}
	for _, n := range counts() {
		add(func(h *impl.Herd) { h.Count = n })
	}
	for _, c := range goodPodLists() {
		add(func(h *impl.Herd) { h.Pods = c.list })
	}
	for _, c := range goodStores() {
		add(func(h *impl.Herd) { h.Store = c.list })
	}
	for _, notes := range goodNotes() {
		add(func(h *impl.Herd) { h.Now, h.Notes = lastTick, notes })
	}
	for _, moves := range goodMoves() {
		add(func(h *impl.Herd) { h.Now, h.Moves = lastTick, moves })
	}
	for _, cond := range conds() {
		add(func(h *impl.Herd) { h.Cond = cond })
	}
	for n := range manyFaults + 1 {
		add(func(h *impl.Herd) { h.Faults = n })
	}
	return list
}

// badHerds each break one condition, but for the zero value.
func badHerds() []impl.Herd {
	list := []impl.Herd{{}, {Count: 3}, {Setup: impl.Setup{Goals: goalsOf("cpu", "cpu")}}}
	add := func(change func(*impl.Herd)) {
		list = append(list, with(busyHerd(), change), with(fullHerd(), change))
	}
	for _, s := range badSetups() {
		list = append(list, with(fullHerd(), func(h *impl.Herd) { h.Setup = s }))
	}
	for _, at := range notTicks() {
		add(func(h *impl.Herd) { h.Now, h.Notes, h.Moves = at, nil, nil })
		add(func(h *impl.Herd) { h.Rev = at })
	}
	for _, n := range notCounts() {
		add(func(h *impl.Herd) { h.Count = n })
	}
	for _, c := range noPodLists() {
		add(func(h *impl.Herd) { h.Pods = c.list })
	}
	for _, c := range noStores() {
		add(func(h *impl.Herd) { h.Store = c.list })
	}
	for _, notes := range noNotes() {
		add(func(h *impl.Herd) { h.Now, h.Notes = lastTick, notes })
	}
	for _, moves := range noMoves() {
		add(func(h *impl.Herd) { h.Now, h.Moves = lastTick, moves })
	}
	for _, cond := range notConds() {
		add(func(h *impl.Herd) { h.Cond = cond })
	}
	for _, n := range notFaults() {
		add(func(h *impl.Herd) { h.Faults = n })
	}
	for _, ticks := range [][]int{{11}, {10, 11}, {0, 5, 11}, {lastTick}, append(filled(longLog-1, 10), 11)} {
		add(func(h *impl.Herd) { h.Notes = notesAt(ticks, 3) })
		add(func(h *impl.Herd) { h.Moves = movesAt(ticks, 3) })
	}
	add(func(h *impl.Herd) { h.Now, h.Notes, h.Moves = 0, notesAt([]int{1}, 3), nil })
	add(func(h *impl.Herd) { h.Now, h.Notes, h.Moves = 0, nil, movesAt([]int{1}, 3) })
	return list
}

func TestHerdOk(t *testing.T) {
	for _, h := range goodHerds() {
		if !impl.HerdOk(h) {
			t.Errorf("HerdOk(%+v) is false", h)
		}
	}
	for _, h := range badHerds() {
		if impl.HerdOk(h) {
			t.Errorf("HerdOk(%+v) is true", h)
		}
	}
}

func allKindsOfOps() []impl.Op {
	return []impl.Op{tickOp(3), scrapeOp("p1 cpu 1 90\n"), podsOp(readyAt("p1", 0)), setupOp(impl.DefaultSetup()), handsOp(5), faultsOp(2), restartOp(), lookOp(), {Kind: 8}}
}

func TestInvalidHerdsAreReturned(t *testing.T) {
	for i, h := range badHerds() {
		for k, op := range allKindsOfOps() {
			if i > 100 && i%9 != k {
				continue
			}
			checkStep(t, h, op, h, nil, impl.OpBad)
		}
		if wants, law, text := impl.WantsNow(h), impl.LawNow(h), impl.HerdText(h); wants != nil || law != -1 || text != "" {
			t.Errorf("WantsNow, LawNow and HerdText of %+v are %v, %d and %q", h, wants, law, text)
		}
	}
}

func TestKindsThatDoNotExist(t *testing.T) {
	for _, kind := range []int{math.MinInt, -8, -2, -1, 8, 9, 100, 256, 1 << 32, 1<<32 + 7, math.MaxInt} {
		for _, h := range []impl.Herd{busyHerd(), fullHerd()} {
			checkStep(t, h, impl.Op{Kind: kind}, h, nil, impl.OpBad)
			checkStep(t, h, impl.Op{Kind: kind, A: 1, Text: "p1 cpu 1 90\n", Pods: podsOf(3), Setup: impl.DefaultSetup()}, h, nil, impl.OpBad)
		}
	}
}

// stepCase tells what an operation changes.
type stepCase struct {
	op     impl.Op
	change func(*impl.Herd)
	code   int
	events []impl.Event
}

func checkSteps(t *testing.T, h impl.Herd, cases []stepCase) {
	t.Helper()
	for _, c := range cases {
		want := with(h, c.change)
		checkStep(t, h, c.op, want, c.events, c.code)
		rule, events, code := stepByRule(h, c.op)
		if shown(rule) != shown(want) || !slices.Equal(events, c.events) || code != c.code {
			t.Errorf("by the rule %s gives %+v, %v, %d", nameOf(c.op), rule, events, code)
		}
	}
}

func TestTicks(t *testing.T) {
	nowAt := func(now int) func(*impl.Herd) { return func(h *impl.Herd) { h.Now = now } }
	for _, h := range []impl.Herd{busyHerd(), fullHerd()} {
		checkSteps(t, h, []stepCase{
			{tickOp(0), nil, impl.OpIdle, nil},
			{tickOp(1), nowAt(11), impl.OpDone, nil},
			{tickOp(999), nowAt(1009), impl.OpDone, nil},
			{tickOp(longSpan), nowAt(1010), impl.OpDone, nil},
			{tickOp(longSpan + 1), nil, impl.OpBad, nil},
			{tickOp(-1), nil, impl.OpBad, nil},
			{tickOp(math.MinInt), nil, impl.OpBad, nil},
			{tickOp(math.MaxInt), nil, impl.OpBad, nil},
			{tickOp(1<<32 + 1), nil, impl.OpBad, nil},
		})
	}
}

func TestTicksAtTheLastTick(t *testing.T) {
	last := func(h *impl.Herd) { h.Now = lastTick }
	for _, left := range []int{0, 1, 5, longSpan - 1, longSpan} {
		h := with(fullHerd(), func(h *impl.Herd) { h.Now = lastTick - left })
		checkSteps(t, h, []stepCase{
			{tickOp(0), nil, impl.OpIdle, nil},
			{tickOp(longSpan), last, impl.OpDone, nil},
			{tickOp(min(left+1, longSpan)), last, impl.OpDone, nil},
			{tickOp(max(left, 1)), last, impl.OpDone, nil},
			{tickOp(longSpan + 1), nil, impl.OpBad, nil},
		})
		if left > 1 {
			checkSteps(t, h, []stepCase{{tickOp(left - 1), func(h *impl.Herd) { h.Now = lastTick - 1 }, impl.OpDone, nil}})
		}
	}
}

func storing(store ...impl.Series) func(*impl.Herd) {
	return func(h *impl.Herd) { h.Store = store }
}

func scraped(puts int, bad int) []impl.Event { return []impl.Event{event(0, 10, puts, bad)} }

func TestScrapes(t *testing.T) {
	p1, p2 := oneSample("p1", 10, 2000), oneSample("p2", 10, 2000)
	longer := seriesAt("p1", "cpu", impl.Point{At: 10, Value: 2000}, impl.Point{At: 12, Value: 1250})
	checkSteps(t, busyHerd(), []stepCase{
		{scrapeOp("p1 cpu 1.25 12\n"), storing(longer, p2), impl.OpDone, scraped(1, 0)},
		{scrapeOp("p1 cpu 1.25 12"), storing(longer, p2), impl.OpDone, scraped(1, 0)},
		{scrapeOp("# c\n\np1 cpu 1.25 12\n"), storing(longer, p2), impl.OpDone, scraped(1, 0)},
		{scrapeOp("p0 cpu 1 5\np3 ram 2 0\n"), storing(oneSample("p0", 5, 1000), p1, p2, seriesAt("p3", "ram", impl.Point{Value: 2000})), impl.OpDone, scraped(2, 0)},
		{scrapeOp("p1 cpu 1.25 12\nbad\np1 cpu 9 12\n x\n"), storing(longer, p2), impl.OpDone, scraped(1, 3)},
		{scrapeOp("p1 cpu 1.25 12\np1 cpu 1 11\np1 cpu 1 10\n"), storing(longer, p2), impl.OpDone, scraped(1, 0)},
		{scrapeOp("bad\np1 cpu 1 11\nworse"), storing(seriesAt("p1", "cpu", impl.Point{At: 10, Value: 2000}, impl.Point{At: 11, Value: 1000}), p2), impl.OpDone, scraped(1, 2)},
		{scrapeOp("p1 cpu 1 9\np2 cpu 1 10\n"), nil, impl.OpIdle, scraped(0, 0)},
		{scrapeOp("p1 cpu 1 9\nbad\n"), nil, impl.OpIdle, scraped(0, 1)},
		{scrapeOp("bad\n"), nil, impl.OpIdle, scraped(0, 1)},
		{scrapeOp("bad\nbad\np1 cpu 1.0 12\nx"), nil, impl.OpIdle, scraped(0, 4)},
		{scrapeOp(""), nil, impl.OpIdle, scraped(0, 0)},
		{scrapeOp("\n\n# c\n#"), nil, impl.OpIdle, scraped(0, 0)},
		{scrapeOp("\x00\xff"), nil, impl.OpIdle, scraped(0, 1)},
		// Samples may be ahead of the herd, and of pods that it does not know.
		{scrapeOp("zz zz 1000000 1000000000\n"), storing(p1, p2, seriesAt("zz", "zz", impl.Point{At: lastTick, Value: limit})), impl.OpDone, scraped(1, 0)},
	})
}

func TestScrapesThatAreTooLong(t *testing.T) {
	most, text := numbered(manyLines)
	_, over := numbered(manyLines + 1)
	store, _ := impl.PutAll(busyHerd().Store, most)
	room := longScrape - len("p1 cpu 1 12\n")
	checkSteps(t, busyHerd(), []stepCase{
		{scrapeOp(text), storing(store...), impl.OpDone, scraped(manySeries-2, 0)},
		{scrapeOp(over), nil, impl.OpBad, nil},
		{scrapeOp(text + "\n"), nil, impl.OpBad, nil},
		{scrapeOp(text + "#"), nil, impl.OpBad, nil},
		{scrapeOp(strings.Repeat("x\n", manyLines)), nil, impl.OpIdle, scraped(0, manyLines)},
		{scrapeOp(strings.Repeat("x\n", manyLines+1)), nil, impl.OpBad, nil},
		{scrapeOp(strings.Repeat("\n", manyLines)), nil, impl.OpIdle, scraped(0, 0)},
		{scrapeOp(strings.Repeat("\n", manyLines+1)), nil, impl.OpBad, nil},
		{scrapeOp("p3 cpu 1 12\n" + strings.Repeat("x", room)), storing(append(busyHerd().Store, oneSample("p3", 12, 1000))...), impl.OpDone, scraped(1, 1)},
		{scrapeOp("p3 cpu 1 12\n" + strings.Repeat("x", room+1)), nil, impl.OpBad, nil},
		{scrapeOp(strings.Repeat("x", longScrape)), nil, impl.OpIdle, scraped(0, 1)},
		{scrapeOp(strings.Repeat("x", longScrape+1)), nil, impl.OpBad, nil},
		{scrapeOp(strings.Repeat("x", 1000000)), nil, impl.OpBad, nil},
	})
}

// A store takes the first new series that arrive, whatever their pods are.
func TestScrapesIntoAFullStore(t *testing.T) {
	h := with(busyHerd(), storing(storeOf(manySeries-2)...))
	full := with(busyHerd(), storing(storeOf(manySeries)...))
	with2 := func(a impl.Series, b impl.Series) func(*impl.Herd) {
		return func(h *impl.Herd) {
			h.Store = append(h.Store, a, b)
			slices.SortFunc(h.Store, func(a impl.Series, b impl.Series) int { return strings.Compare(a.Pod+" "+a.Metric, b.Pod+" "+b.Metric) })
		}
	}
	z, y, a := oneSample("z", 1, 1000), oneSample("y", 2, 1000), oneSample("a", 3, 1000)
	checkSteps(t, h, []stepCase{
		{scrapeOp("z cpu 1 1\ny cpu 1 2\na cpu 1 3\n"), with2(z, y), impl.OpDone, scraped(2, 0)},
		{scrapeOp("a cpu 1 3\nz cpu 1 1\ny cpu 1 2\n"), with2(a, z), impl.OpDone, scraped(2, 0)},
		{scrapeOp("y cpu 1 2\na cpu 1 3\nz cpu 1 1\nx cpu 1 1\n"), with2(y, a), impl.OpDone, scraped(2, 0)},
	})
	checkSteps(t, full, []stepCase{
		{scrapeOp("z cpu 1 1\na cpu 1 3\n"), nil, impl.OpIdle, scraped(0, 0)},
		{scrapeOp("z cpu 1 1\nbad\n"), nil, impl.OpIdle, scraped(0, 1)},
		{scrapeOp("z cpu 1 1\np00 m0 1 900\n"), func(h *impl.Herd) { h.Store[0].Points = append(h.Store[0].Points, impl.Point{At: 900, Value: 1000}) }, impl.OpDone, scraped(1, 0)},
	})
}

// manySamples are of many pods in an order that is not theirs.
func manySamples(seed int, pods int) string {
	d := &dice{seed}
	var text strings.Builder
	for range manyLines {
		fmt.Fprintf(&text, "p%d m%d 1 %d\n", d.roll(pods), d.roll(2), 11+d.roll(30))
	}
	return text.String()
}

func TestRepeatedScrapesGiveTheSame(t *testing.T) {
	for _, pods := range []int{1, 2, 11, 12, 13, 30, 90} {
		for seed := range 4 {
			op := scrapeOp(manySamples(seed, pods))
			want, events, code := stepByRule(busyHerd(), op)
			for range 40 {
				got, gotEvents, gotCode := impl.StepHerd(busyHerd(), op)
				if shown(got) != shown(want) || !slices.Equal(gotEvents, events) || gotCode != code {
					t.Fatalf("%s gives %+v, %v, %d, want %+v, %v, %d", nameOf(op), got, gotEvents, gotCode, want, events, code)
				}
			}
		}
	}
}

func TestPodsOfHerds(t *testing.T) {
	h := with(busyHerd(), storing(seriesAt("a", "x", impl.Point{}), oneSample("p1", 10, 1), seriesAt("p1", "ram", impl.Point{At: 3}), oneSample("p2", 10, 2), oneSample("p22", 4, 4)))
	pods := func(list []impl.Pod, kept ...int) func(*impl.Herd) {
		return func(h *impl.Herd) {
			h.Pods = list
			store := h.Store
			h.Store = nil
			for _, i := range kept {
				h.Store = append(h.Store, store[i])
			}
		}
	}
	p1, p2, failed := readyAt("p1", 0), readyAt("p2", 0), impl.Pod{Name: "p2", Born: 9, Phase: impl.PodFailed}
	cases := []stepCase{
		{podsOp(p1, p2), pods([]impl.Pod{p1, p2}, 1, 2, 3), impl.OpDone, nil},
		{podsOp(p1), pods([]impl.Pod{p1}, 1, 2), impl.OpDone, nil},
		{podsOp(p2), pods([]impl.Pod{p2}, 3), impl.OpDone, nil},
		{podsOp(p1, failed), pods([]impl.Pod{p1, failed}, 1, 2, 3), impl.OpDone, nil},
		{podsOp(podsNamed("a", "p22")...), pods(podsNamed("a", "p22"), 0, 4), impl.OpDone, nil},
		{podsOp(podsNamed("b", "p3")...), pods(podsNamed("b", "p3")), impl.OpDone, nil},
		{podsOp(), pods(nil), impl.OpDone, nil},
		{podsOp([]impl.Pod{}...), pods(nil), impl.OpDone, nil},
	}
	for _, c := range goodPodLists() {
		cases = append(cases, stepCase{podsOp(c.list...), func(h *impl.Herd) { *h, _, _ = stepByRule(*h, podsOp(c.list...)) }, impl.OpDone, nil})
	}
	for _, c := range noPodLists() {
		cases = append(cases, stepCase{podsOp(c.list...), nil, impl.OpBad, nil})
	}
	checkSteps(t, h, cases)
	// Even the same pods are taken, and even they drop the series of others.
	checkSteps(t, busyHerd(), []stepCase{{podsOp(p1, p2), nil, impl.OpDone, nil}})
}

func TestSetupsOfHerds(t *testing.T) {
	for _, current := range []impl.Setup{impl.DefaultSetup(), setupOf(goalsOf("cpu", "ram")...), {Goals: goalsOf("cpu")}, {Goals: goalsOf("cpu"), Behave: impl.Behave{Up: impl.Side{Policies: []impl.Policy{}}}}} {
		h := with(fullHerd(), func(h *impl.Herd) { h.Setup = current })
		checkSteps(t, h, []stepCase{{setupOp(current), nil, impl.OpIdle, nil}, {setupOp(copiedSetup(current)), nil, impl.OpIdle, nil}})
		for i, s := range goodSetups() {
			if i > 200 && i%17 != 0 {
				continue
			}
			code := idleUnless(setupByRule(s) != setupByRule(current))
			checkSteps(t, h, []stepCase{{setupOp(s), func(h *impl.Herd) { h.Setup = s }, code, nil}})
		}
	}
	for _, s := range badSetups() {
		checkSteps(t, busyHerd(), []stepCase{{setupOp(s), nil, impl.OpBad, nil}})
	}
}

// TestSetupsThatDifferALittle changes each number of a setup alone.
func TestSetupsThatDifferALittle(t *testing.T) {
	base := impl.Setup{Rules: usual(), Goals: goalsOf("cpu", "ram"), Behave: impl.Behave{Up: sideWith(0, 3, byPods(2, 10), byPods(4, 20)), Down: sideWith(1, 5, byPercent(50, 10)), Min: 1, Max: 10}}
	h := with(fullHerd(), func(h *impl.Herd) { h.Setup = base })
	changes := []func(*impl.Setup){
		func(s *impl.Setup) { s.Rules.Delay++ }, func(s *impl.Setup) { s.Rules.Fresh++ }, func(s *impl.Setup) { s.Rules.Window++ },
		func(s *impl.Setup) { s.Goals[0].Metric = "io" }, func(s *impl.Setup) { s.Goals[1].Target++ }, func(s *impl.Setup) { s.Goals[1].Tol-- }, func(s *impl.Setup) { s.Goals = s.Goals[:1] }, func(s *impl.Setup) { slices.Reverse(s.Goals) },
		func(s *impl.Setup) { s.Behave.Min++ }, func(s *impl.Setup) { s.Behave.Max-- }, func(s *impl.Setup) { s.Behave.Up.Select = 1 }, func(s *impl.Setup) { s.Behave.Up.Window-- }, func(s *impl.Setup) { s.Behave.Down.Select = 2 }, func(s *impl.Setup) { s.Behave.Down.Window++ },
		func(s *impl.Setup) { s.Behave.Up.Policies[0].Kind = 1 }, func(s *impl.Setup) { s.Behave.Up.Policies[1].Value++ }, func(s *impl.Setup) { s.Behave.Down.Policies[0].Period++ }, func(s *impl.Setup) { s.Behave.Down.Policies = nil }, func(s *impl.Setup) { slices.Reverse(s.Behave.Up.Policies) }, func(s *impl.Setup) { s.Behave.Up, s.Behave.Down = s.Behave.Down, s.Behave.Up },
	}
	for _, change := range changes {
		s := copiedSetup(base)
		change(&s)
		checkSteps(t, h, []stepCase{{setupOp(s), func(h *impl.Herd) { h.Setup = s }, impl.OpDone, nil}})
	}
}

func TestHands(t *testing.T) {
	for _, count := range counts() {
		for _, h := range []impl.Herd{busyHerd(), fullHerd()} {
			h.Count = count
			var cases []stepCase
			for _, next := range counts() {
				if next == count {
					cases = append(cases, stepCase{handsOp(next), nil, impl.OpIdle, nil})
					continue
				}
				write := func(h *impl.Herd) { h.Count, h.Rev = next, h.Rev+1 }
				cases = append(cases, stepCase{handsOp(next), write, impl.OpDone, []impl.Event{event(4, 10, count, next)}})
			}
			for _, next := range notCounts() {
				cases = append(cases, stepCase{handsOp(next), nil, impl.OpBad, nil})
			}
			checkSteps(t, h, cases)
		}
	}
}

func TestFaultsOfHerds(t *testing.T) {
	for current := range manyFaults + 1 {
		h := with(fullHerd(), func(h *impl.Herd) { h.Faults = current })
		var cases []stepCase
		for n := range manyFaults + 1 {
			cases = append(cases, stepCase{faultsOp(n), func(h *impl.Herd) { h.Faults = n }, idleUnless(n != current), nil})
		}
		for _, n := range notFaults() {
			cases = append(cases, stepCase{faultsOp(n), nil, impl.OpBad, nil})
		}
		checkSteps(t, h, cases)
	}
}

// Overrides do not fail, whatever the faults are.
func TestHandsDespiteFaults(t *testing.T) {
	h := with(fullHerd(), func(h *impl.Herd) { h.Faults = manyFaults })
	checkSteps(t, h, []stepCase{{handsOp(9), func(h *impl.Herd) { h.Count, h.Rev = 9, 8 }, impl.OpDone, []impl.Event{event(4, 10, 2, 9)}}})
}

func TestRestarts(t *testing.T) {
	forget := func(h *impl.Herd) { h.Store, h.Notes, h.Moves, h.Cond = nil, nil, nil, impl.CondNone }
	restarted := []impl.Event{event(3, 10, 0, 0)}
	for _, cond := range conds() {
		for _, h := range []impl.Herd{busyHerd(), fullHerd(), {Setup: impl.DefaultSetup(), Now: 10}} {
			h.Cond = cond
			checkSteps(t, h, []stepCase{{restartOp(), forget, impl.OpDone, restarted}, {impl.Op{Kind: kindRestart, A: -5, Text: "x"}, forget, impl.OpDone, restarted}})
		}
	}
}

// What a restart forgets neither holds a later decision back nor limits it.
func TestLooksAfterARestart(t *testing.T) {
	h := busyHerd()
	h.Notes, h.Moves = []impl.Note{note(9, 9)}, []impl.Move{move(9, 1)}
	limited, _, _ := impl.StepHerd(h, lookOp())
	if limited.Count != 2 || limited.Cond != impl.CondSteady {
		t.Errorf("the herd is %+v", limited)
	}
	h = follow(t, h, restartOp())
	blind := follow(t, h, lookOp())
	if blind.Cond != impl.CondBlind || blind.Count != 2 || len(blind.Notes) != 0 {
		t.Errorf("after the restart the herd is %+v", blind)
	}
	h = follow(t, blind, scrapeOp("p1 cpu 2 10\np2 cpu 2 10\n"))
	if h = follow(t, h, lookOp()); h.Count != 4 || h.Cond != impl.CondMoved || shown(h.Notes) != shown([]impl.Note{note(10, 4)}) || shown(h.Moves) != shown([]impl.Move{move(10, 2)}) {
		t.Errorf("with new samples the herd is %+v", h)
	}
}

func TestWindowsAfterARestart(t *testing.T) {
	idle := "p1 cpu 0.5 25\np2 cpu 0.5 25\n"
	h := with(busyHerd(), func(h *impl.Herd) { h.Now, h.Count, h.Notes = 25, 8, []impl.Note{note(10, 8)} })
	h = follow(t, h, scrapeOp(idle))
	if held := follow(t, h, lookOp()); held.Count != 8 || held.Cond != impl.CondSteady {
		t.Errorf("the window holds %+v", held)
	}
	h = follow(t, follow(t, h, restartOp()), scrapeOp(idle))
	if h = follow(t, h, lookOp()); h.Count != 4 || h.Cond != impl.CondMoved {
		t.Errorf("without the window the herd is %+v", h)
	}
}

// condition sets what a look leaves without a decision.
func condition(cond int) func(*impl.Herd) { return func(h *impl.Herd) { h.Cond = cond } }

func TestLooksWithoutADecision(t *testing.T) {
	for _, cond := range conds() {
		for _, faults := range []int{0, 1, manyFaults} {
			h := with(fullHerd(), func(h *impl.Herd) {
				h.Cond, h.Faults = cond, faults
				h.Notes, h.Moves = notesAt(ticksUpTo(longLog, 1, 10+longLog), 9), movesAt(ticksUpTo(longLog, 1, 10+longLog), 1)
				h.Now = lastTick
			})
			off := with(h, func(h *impl.Herd) { h.Count = 0 })
			checkSteps(t, off, []stepCase{{lookOp(), condition(impl.CondOff), impl.OpIdle, nil}})
			checkSteps(t, h, []stepCase{{lookOp(), condition(impl.CondBlind), impl.OpIdle, nil}})
		}
	}
	blind := []func(*impl.Herd){
		func(h *impl.Herd) { h.Store = nil },
		func(h *impl.Herd) { h.Pods = nil },
		func(h *impl.Herd) { h.Pods, h.Store = nil, nil },
		func(h *impl.Herd) { h.Setup.Goals = goalsOf("ram", "io") },
		func(h *impl.Herd) { h.Now = 41 },
		func(h *impl.Herd) { h.Pods = []impl.Pod{{Name: "p1"}, {Name: "p2"}} },
		func(h *impl.Herd) { h.Pods = []impl.Pod{readyAt("p1", 6), readyAt("p2", 10)} },
		func(h *impl.Herd) {
			h.Pods = []impl.Pod{{Name: "p1", Phase: 1, Ready: true}, {Name: "p2", Phase: 2, Ready: true}}
		},
		func(h *impl.Herd) { h.Pods = []impl.Pod{readyAt("p0", 0), readyAt("p3", 0)} },
		// The sum of the usages is clamped.
		func(h *impl.Herd) { h.Store = []impl.Series{oneSample("p1", 10, limit), oneSample("p2", 10, 1)} },
	}
	for _, change := range blind {
		checkSteps(t, with(busyHerd(), change), []stepCase{{lookOp(), condition(impl.CondBlind), impl.OpIdle, nil}})
		checkSteps(t, with(busyHerd(), func(h *impl.Herd) {
			change(h)
			h.Count = 0
		}), []stepCase{{lookOp(), condition(impl.CondOff), impl.OpIdle, nil}})
	}
}

// decided is a decision: what a look writes, or would write.
func decided(cond int, law int, from int, to int) stepCase {
	change := func(h *impl.Herd) {
		h.Cond = cond
		h.Notes = append(h.Notes, note(h.Now, law))
		switch cond {
		case impl.CondMoved:
			h.Count, h.Rev = to, h.Rev+1
			h.Moves = append(h.Moves, move(h.Now, to-from))
		case impl.CondFault:
			h.Faults--
		}
	}
	switch cond {
	case impl.CondMoved:
		return stepCase{lookOp(), change, impl.OpDone, []impl.Event{event(1, 10, from, to)}}
	case impl.CondFault:
		return stepCase{lookOp(), change, impl.OpIdle, []impl.Event{event(2, 10, from, to)}}
	}
	return stepCase{lookOp(), change, impl.OpIdle, nil}
}

func TestLooks(t *testing.T) {
	free := impl.Behave{Max: manyCount}
	count := func(n int) func(*impl.Herd) { return func(h *impl.Herd) { h.Count = n } }
	freely := func(n int, min int, max int) func(*impl.Herd) {
		return func(h *impl.Herd) {
			h.Count, h.Setup.Behave, h.Setup.Behave.Min, h.Setup.Behave.Max = n, free, min, max
		}
	}
	cases := []struct {
		change        func(*impl.Herd)
		law, from, to int
	}{
		{count(1), 4, 1, 2}, {count(2), 4, 2, 4}, {count(3), 4, 3, 4}, {count(4), 4, 4, 4}, {count(5), 5, 5, 5}, {count(11), 11, 11, 10}, {count(manyCount), manyCount, manyCount, 10},
		{freely(1, 0, manyCount), 4, 1, 4}, {freely(4, 0, manyCount), 4, 4, 4}, {freely(900, 0, manyCount), 900, 900, 900}, {freely(2, 0, 3), 4, 2, 3}, {freely(3, 0, 3), 4, 3, 3}, {freely(2, 6, 9), 4, 2, 6}, {freely(8, 0, 5), 8, 8, 5}, {freely(2, 2, 2), 4, 2, 2},
		{func(h *impl.Herd) { h.Count, h.Setup.Behave.Up.Select = 2, 2 }, 4, 2, 2},
		{func(h *impl.Herd) { h.Count, h.Moves = 3, []impl.Move{move(9, 1)} }, 4, 3, 4},
		{func(h *impl.Herd) { h.Count, h.Moves = 2, []impl.Move{move(9, 1)} }, 4, 2, 2},
		{func(h *impl.Herd) { h.Count, h.Notes, h.Setup.Behave.Up.Window = 2, []impl.Note{note(5, 3)}, 6 }, 4, 2, 3},
		{func(h *impl.Herd) { h.Count, h.Notes, h.Setup.Behave.Up.Window = 2, []impl.Note{note(5, 3)}, 5 }, 4, 2, 4},
		{func(h *impl.Herd) { h.Setup.Goals[0].Tol = longTol }, 2, 2, 2},
		{func(h *impl.Herd) { h.Store = []impl.Series{oneSample("p1", 10, 1), oneSample("p2", 10, 0)} }, 1, 2, 1},
		{func(h *impl.Herd) {
			h.Store, h.Count = []impl.Series{oneSample("p1", 10, 0), oneSample("p2", 10, 0)}, 9
		}, 0, 9, 4},
		{func(h *impl.Herd) {
			freely(9, 0, 20)(h)
			h.Store = []impl.Series{oneSample("p1", 10, 0), oneSample("p2", 10, 0)}
		}, 0, 9, 0},
	}
	for _, c := range cases {
		h := with(busyHerd(), c.change)
		for _, faults := range []int{0, 1, 2, manyFaults} {
			h.Faults = faults
			want := decided(impl.CondMoved, c.law, c.from, c.to)
			if faults > 0 {
				want = decided(impl.CondFault, c.law, c.from, c.to)
			}
			if c.from == c.to {
				want = decided(impl.CondSteady, c.law, c.from, c.to)
			}
			checkSteps(t, h, []stepCase{want})
		}
	}
}

// A write that fails leaves the count as it was, and the next one tries again.
func TestFailuresWhenTheCountWouldMove(t *testing.T) {
	for faults := range manyFaults + 1 {
		h := with(busyHerd(), func(h *impl.Herd) { h.Faults = faults })
		for left := faults; left > 0; left-- {
			h = follow(t, h, lookOp())
			if h.Count != 2 || h.Rev != 0 || h.Faults != left-1 || h.Cond != impl.CondFault || len(h.Moves) != 0 || len(h.Notes) != faults-left+1 {
				t.Errorf("with %d of %d faults left the herd is %+v", left, faults, h)
			}
		}
		h = follow(t, h, lookOp())
		if h.Count != 4 || h.Rev != 1 || h.Faults != 0 || h.Cond != impl.CondMoved || len(h.Moves) != 1 || len(h.Notes) != faults+1 {
			t.Errorf("after %d faults the herd is %+v", faults, h)
		}
	}
}

// Faults wait for a write: other looks do not use them up.
func TestFaultsWaitForAWrite(t *testing.T) {
	for _, change := range []func(*impl.Herd){func(h *impl.Herd) { h.Count = 4 }, func(h *impl.Herd) { h.Count = 0 }, func(h *impl.Herd) { h.Store = nil }} {
		h := with(busyHerd(), change)
		h.Faults = 2
		if h = follow(t, follow(t, h, lookOp()), lookOp()); h.Faults != 2 {
			t.Errorf("the herd is %+v", h)
		}
	}
}

// goalsWith has cpu with the law 4 for the count 2, a goal that is known only by
// its own sample, and one that is not known.
func goalsWith(goals ...impl.Goal) impl.Herd {
	h := busyHerd()
	h.Setup.Goals = goals
	h.Store = []impl.Series{oneSample("p1", 10, 2000), seriesAt("p1", "ram", impl.Point{At: 10, Value: 3000}), oneSample("p2", 10, 2000), seriesAt("p2", "ram", impl.Point{At: 10, Value: 3000})}
	return h
}

func TestWantsNow(t *testing.T) {
	four, six, none := cpu(1000, 100), impl.Goal{Metric: "ram", Target: 1000, Tol: 100}, impl.Goal{Metric: "io", Target: 1000, Tol: 100}
	cases := []struct {
		goals []impl.Goal
		count int
		wants []int
		law   int
	}{
		{[]impl.Goal{four}, 2, []int{4}, 4}, {[]impl.Goal{six}, 2, []int{6}, 6}, {[]impl.Goal{none}, 2, []int{-1}, -1}, {[]impl.Goal{four, six}, 2, []int{4, 6}, 6}, {[]impl.Goal{six, four}, 2, []int{6, 4}, 6},
		{[]impl.Goal{four, none}, 2, []int{4, -1}, 4}, {[]impl.Goal{none, four}, 2, []int{-1, 4}, 4}, {[]impl.Goal{none, six, four}, 2, []int{-1, 6, 4}, 6}, {[]impl.Goal{four, none, six}, 5, []int{5, -1, 6}, 6}, {[]impl.Goal{none, {Metric: "x1", Target: 1}, {Metric: "x2", Target: 1}}, 2, []int{-1, -1, -1}, -1},
		{[]impl.Goal{cpu(8000, 0)}, 4, []int{1}, 1}, {[]impl.Goal{cpu(8000, 0), none}, 4, []int{1, -1}, 4}, {[]impl.Goal{none, cpu(8000, 0)}, 4, []int{-1, 1}, 4}, {[]impl.Goal{cpu(8000, 0), six}, 4, []int{1, 6}, 6}, {[]impl.Goal{cpu(8000, 0), six, none}, 9, []int{1, 9, -1}, 9},
		{[]impl.Goal{four}, 0, []int{0}, -1}, {[]impl.Goal{none}, 0, []int{-1}, -1}, {[]impl.Goal{four, none, six}, 0, []int{0, -1, 0}, -1}, {[]impl.Goal{cpu(1, 0)}, manyCount, []int{manyCount}, manyCount}, {[]impl.Goal{cpu(1, 0)}, 1, []int{manyCount}, manyCount},
	}
	for _, c := range cases {
		h := goalsWith(c.goals...)
		h.Count = c.count
		given := roomyHerd(h)
		before := roomTextOfHerd(given)
		wants := impl.WantsNow(given)
		if law := impl.LawNow(given); !slices.Equal(wants, c.wants) || law != c.law {
			t.Errorf("of %+v for %d: WantsNow = %v, LawNow = %d, want %v and %d", c.goals, c.count, wants, law, c.wants, c.law)
		}
		overwriteAll(wants, -5)
		impl.HerdText(given)
		impl.HerdOk(given)
		if roomTextOfHerd(given) != before || !slices.Equal(impl.WantsNow(given), c.wants) {
			t.Errorf("WantsNow of %+v changes its argument", c.goals)
		}
		if next := follow(t, h, lookOp()); c.law >= 0 && shown(next.Notes) != shown([]impl.Note{note(10, c.law)}) {
			t.Errorf("a look of %+v for %d has the notes %+v", c.goals, c.count, next.Notes)
		}
	}
}

func TestWantsOfScripts(t *testing.T) {
	unknown := 0
	for seed := 900; seed < 930; seed++ {
		h := impl.Herd{Setup: scriptSetups()[seed%5], Count: 4}
		for _, op := range scriptOf(seed) {
			h, _, _ = impl.StepHerd(h, op)
			wants, law := impl.WantsNow(h), impl.LawNow(h)
			if !slices.Equal(wants, wantsByRule(h)) || law != lawByRule(h) {
				t.Fatalf("WantsNow and LawNow of %+v are %v and %d", h, wants, law)
			}
			if slices.Min(wants) < 0 && slices.Max(wants) >= 0 {
				unknown++
			}
		}
	}
	if unknown < 50 {
		t.Errorf("only %d times some goals were unknown", unknown)
	}
}

// spans are behaviors with a LongestWindow of their own, in each place.
func spans(longest int) []impl.Behave {
	short := max(longest-1, 0)
	list := []impl.Behave{{Up: sideWith(0, longest), Down: sideWith(0, short)}, {Up: sideWith(0, short), Down: sideWith(0, longest)}}
	if longest > 0 {
		list = append(list, impl.Behave{Up: sideWith(0, short, byPods(5, 1), byPods(5, longest)), Down: sideWith(0, short, byPods(5, 1))}, impl.Behave{Up: sideWith(2, 0, byPods(5, 1)), Down: sideWith(0, 0, byPercent(50, longest))})
	}
	for i := range list {
		list[i].Max = manyCount
	}
	return list
}

// TestEdgesOfTheLongestWindow has entries exactly as old as the window, one tick
// younger and one older.
func TestEdgesOfTheLongestWindow(t *testing.T) {
	for _, longest := range []int{0, 1, 2, 20, 30, longSpan} {
		for _, b := range spans(longest) {
			now := 5000
			h := with(busyHerd(), func(h *impl.Herd) {
				h.Now, h.Setup.Behave, h.Setup.Rules = now, b, impl.Rules{Fresh: longRule, Window: 1}
				h.Store = []impl.Series{oneSample("p1", now, 1000), oneSample("p2", now, 1000)}
				for _, age := range []int{longest + 2, longest + 1, longest, longest - 1, longest - 2, 0} {
					if age >= 0 && now-age >= 0 {
						h.Notes, h.Moves = append(h.Notes, note(now-age, 2)), append(h.Moves, move(now-age, 0))
					}
				}
			})
			got := follow(t, h, lookOp())
			for _, n := range got.Notes[:len(got.Notes)-1] {
				if now-n.At >= longest {
					t.Errorf("with the window %d a note of %d is left at %d", longest, n.At, now)
				}
			}
			young := slices.IndexFunc(h.Notes, func(n impl.Note) bool { return now-n.At < longest })
			if young < 0 {
				young = len(h.Notes)
			}
			if want := append(slices.Clone(h.Notes[young:]), note(now, 2)); !slices.Equal(got.Notes, want) || !slices.Equal(got.Moves, h.Moves[young:]) {
				t.Errorf("with the window %d the notes %+v become %+v and the moves %+v", longest, h.Notes, got.Notes, got.Moves)
			}
		}
	}
}

// fullLogs has n notes and n moves, one in each tick, and within its windows.
func fullLogs(n int, count int, by int) impl.Herd {
	return with(busyHerd(), func(h *impl.Herd) {
		h.Now, h.Count = 300, 4
		h.Setup.Behave = impl.Behave{Up: sideWith(0, 0, byPods(50, 250)), Down: sideWith(0, 250), Max: manyCount}
		h.Setup.Rules = impl.Rules{Fresh: longRule, Window: 1}
		h.Store = []impl.Series{oneSample("p1", 300, 2000), oneSample("p2", 300, 2000)}
		h.Notes, h.Moves = notesAt(ticksUpTo(n, 1, 299), count), movesAt(ticksUpTo(n, 1, 299), by)
	})
}

func TestFullLogs(t *testing.T) {
	for _, n := range []int{0, 1, longLog - 2, longLog - 1, longLog} {
		for _, faults := range []int{0, 1} {
			h := fullLogs(n, 4, 0)
			h.Faults = faults
			full := n / longLog
			steady := follow(t, h, lookOp())
			if len(steady.Notes) != n-full+1 || len(steady.Moves) != n-full || steady.Cond != impl.CondSteady || !impl.HerdOk(steady) {
				t.Errorf("%d notes and moves become %d and %d: %+v", n, len(steady.Notes), len(steady.Moves), steady)
			}
			h.Count = 3
			moved := follow(t, h, lookOp())
			if len(moved.Notes) != n-full+1 || len(moved.Moves) != n-full+1-faults || moved.Count != 4-faults || !impl.HerdOk(moved) {
				t.Errorf("%d notes and moves become %d and %d: %+v", n, len(moved.Notes), len(moved.Moves), moved)
			}
		}
	}
	// Where a window leaves something out, there is room already.
	h := fullLogs(longLog, 4, 0)
	h.Setup.Behave.Up.Policies[0].Period, h.Setup.Behave.Down.Window = 200, 200
	if got := follow(t, h, lookOp()); len(got.Notes) != longLog || len(got.Moves) != longLog-1 || got.Notes[0].At != 101 {
		t.Errorf("%d notes and %d moves are left", len(got.Notes), len(got.Moves))
	}
}

// What leaves a full log counts no more: neither the highest note, which would
// hold the count, nor the move that would use up the rate.
func TestFullLogsForgetTheirFirstEntries(t *testing.T) {
	low := fullLogs(longLog, 5, 0)
	low.Count, low.Store = 9, []impl.Series{oneSample("p1", 300, 100), oneSample("p2", 300, 100)}
	low.Notes[0].Count = 9
	if got := follow(t, low, lookOp()); got.Count != 5 {
		t.Errorf("from 9 to %d", got.Count)
	}
	low.Notes[1].Count = 8
	if got := follow(t, low, lookOp()); got.Count != 8 {
		t.Errorf("from 9 to %d", got.Count)
	}
	high := fullLogs(longLog, 4, 0)
	high.Setup.Behave.Up.Policies[0].Value = 2
	high.Count, high.Moves[0].By = 2, 50
	if got := follow(t, high, lookOp()); got.Count != 4 {
		t.Errorf("from 2 to %d", got.Count)
	}
	high.Moves[1].By = 50
	if got := follow(t, high, lookOp()); got.Count != 2 {
		t.Errorf("from 2 to %d", got.Count)
	}
}

func TestManyLooks(t *testing.T) {
	h := fullLogs(longLog, 4, 1)
	for i := range 3 * longLog {
		h = with(h, func(h *impl.Herd) { h.Count = 3 + i%2 })
		want, events, code := stepByRule(h, lookOp())
		got, gotEvents, gotCode := impl.StepHerd(h, lookOp())
		if shown(got) != shown(want) || !slices.Equal(gotEvents, events) || gotCode != code || !impl.HerdOk(got) {
			t.Fatalf("look %d gives %+v, %v, %d, want %+v, %v, %d", i, got, gotEvents, gotCode, want, events, code)
		}
		h = got
	}
	if len(h.Notes) != longLog || h.Notes[0].At != 300 || len(h.Moves) > longLog {
		t.Errorf("%d notes and %d moves are left", len(h.Notes), len(h.Moves))
	}
}

func TestRevAtItsLimit(t *testing.T) {
	for _, left := range []int{0, 1, 2} {
		h := with(busyHerd(), func(h *impl.Herd) { h.Rev = lastTick - left })
		want := lastTick - max(left-1, 0)
		moved := follow(t, h, lookOp())
		written := follow(t, h, handsOp(9))
		if moved.Rev != want || moved.Count != 4 || written.Rev != want || written.Count != 9 {
			t.Errorf("from %d the revisions are %d and %d", h.Rev, moved.Rev, written.Rev)
		}
		if again := follow(t, follow(t, moved, handsOp(900)), lookOp()); again.Rev != lastTick || again.Count != 10 || !impl.HerdOk(again) {
			t.Errorf("from %d the revision is %d", h.Rev, again.Rev)
		}
		for _, op := range []impl.Op{tickOp(1), restartOp(), handsOp(2), faultsOp(1), podsOp()} {
			if got := follow(t, h, op); got.Rev != h.Rev {
				t.Errorf("%s makes the revision %d", nameOf(op), got.Rev)
			}
		}
	}
}

// checkPlay compares a script with its single steps.
func checkPlay(t *testing.T, name string, s impl.Setup, count int, ops []impl.Op) {
	t.Helper()
	var given []impl.Op
	for _, op := range append(slices.Clone(ops), impl.Op{Kind: -77}, impl.Op{Kind: -77}) {
		given = append(given, roomyOp(op))
	}
	given = given[:len(ops)]
	whole := func(setup impl.Setup) string {
		text := roomText(setup)
		for _, op := range andRoom(given) {
			text += roomTextOfOp(op)
		}
		return text
	}
	setup := roomySetup(s)
	before := whole(setup)
	h, _ := impl.NewHerd(s, count)
	var events []impl.Event
	var codes []int
	for _, op := range ops {
		next, more, code := impl.StepHerd(h, op)
		h, events, codes = next, append(events, more...), append(codes, code)
	}
	got, gotEvents, gotCodes, ok := impl.PlayHerd(setup, count, given)
	if !ok || shown(got) != shown(h) || !slices.Equal(gotEvents, events) || !slices.Equal(gotCodes, codes) {
		t.Errorf("%s gives %+v, %v, %v, %v, want %+v, %v, %v", name, got, gotEvents, gotCodes, ok, h, events, codes)
	}
	checkHerdApart(t, name, got)
	overwriteAll(gotEvents, event(-1, -1, -1, -1))
	overwriteAll(gotCodes, -1)
	if whole(setup) != before {
		t.Errorf("%s changes its arguments", name)
	}
}

func TestPlayHerd(t *testing.T) {
	for i, n := range []int{0, 1, 2, 3, 50, manyOps - 1, manyOps} {
		for seed := range 6 {
			checkPlay(t, fmt.Sprintf("script %d of %d operations", seed, n), scriptSetups()[(i+seed)%5], []int{2, 0, manyCount}[seed%3], scriptOf(seed)[:n])
		}
	}
	checkPlay(t, "no operations", impl.DefaultSetup(), 2, []impl.Op{})
	checkPlay(t, "all kinds of operations", impl.DefaultSetup(), 2, allKindsOfOps())
	checkPlay(t, "MaxOps ticks", impl.DefaultSetup(), 2, slices.Repeat([]impl.Op{tickOp(longSpan)}, manyOps))
	checkPlay(t, "MaxOps bad operations", impl.DefaultSetup(), 2, slices.Repeat([]impl.Op{{Kind: -1}}, manyOps))
	for _, s := range goodSetups()[:60] {
		checkPlay(t, "a script of "+shown(s), s, 3, append(slices.Clone(allKindsOfOps()), setupOp(s), lookOp()))
	}
}

func TestPlayHerdRefuses(t *testing.T) {
	refuse := func(name string, s impl.Setup, count int, ops []impl.Op) {
		h, events, codes, ok := impl.PlayHerd(s, count, ops)
		if ok || shown(h) != shown(impl.Herd{}) || events != nil || codes != nil {
			t.Errorf("PlayHerd of %s = %+v, %v, %v, %v", name, h, events, codes, ok)
		}
	}
	noPlays(func(s impl.Setup, count int) {
		refuse(fmt.Sprintf("the setup %+v and %d", s, count), s, count, allKindsOfOps())
		refuse(fmt.Sprintf("the setup %+v and %d without operations", s, count), s, count, nil)
	})
	for _, n := range []int{manyOps + 1, manyOps + 2, 10 * manyOps} {
		for _, op := range append(allKindsOfOps(), impl.Op{Kind: -1}) {
			refuse(fmt.Sprintf("%d operations %+v", n, op), impl.DefaultSetup(), 2, slices.Repeat([]impl.Op{op}, n))
		}
	}
}

func TestRepeatedScriptsGiveTheSame(t *testing.T) {
	for seed := range 5 {
		ops := scriptOf(seed)
		for i := range 20 {
			ops = append(ops[:2*i:2*i], append([]impl.Op{scrapeOp(manySamples(seed+i, 12))}, ops[2*i+1:]...)...)
		}
		want, events, codes := playByRule(scriptSetups()[seed], 3, ops)
		for range 15 {
			got, gotEvents, gotCodes, ok := impl.PlayHerd(scriptSetups()[seed], 3, ops)
			if !ok || shown(got) != shown(want) || !slices.Equal(gotEvents, events) || !slices.Equal(gotCodes, codes) {
				t.Fatalf("script %d gives %+v, %v, %v, want %+v, %v, %v", seed, got, gotEvents, gotCodes, want, events, codes)
			}
		}
	}
}

func TestHerdText(t *testing.T) {
	cases := []struct {
		change func(*impl.Herd)
		text   string
	}{
		{nil, "10 count 2 rev 0 pods 2 points 2 none"},
		{func(h *impl.Herd) {
			h.Now, h.Rev, h.Cond = 30, 2, impl.CondFault
			h.Store = append(h.Store, oneSample("p3", 0, 0), oneSample("p4", 0, 0))
		}, "30 count 2 rev 2 pods 2 points 4 fault"},
		{func(h *impl.Herd) { h.Now, h.Count, h.Rev, h.Cond = lastTick, manyCount, lastTick, impl.CondOff }, "1000000000 count 1000 rev 1000000000 pods 2 points 2 off"},
		{func(h *impl.Herd) { h.Now, h.Count, h.Pods, h.Store, h.Cond = 0, 0, nil, nil, impl.CondBlind }, "0 count 0 rev 0 pods 0 points 0 blind"},
		{func(h *impl.Herd) { h.Pods, h.Cond, h.Faults = podsOf(manyPods), impl.CondSteady, 10 }, "10 count 2 rev 0 pods 12 points 2 steady"},
		{func(h *impl.Herd) { h.Store, h.Cond = storeOf(manySeries), impl.CondMoved }, "10 count 2 rev 0 pods 2 points 156 moved"},
	}
	for _, c := range cases {
		h := with(busyHerd(), c.change)
		if got := impl.HerdText(h); got != c.text {
			t.Errorf("HerdText(%+v) = %q, want %q", h, got, c.text)
		}
	}
	names := []string{"none", "off", "blind", "steady", "moved", "fault"}
	for _, h := range goodHerds() {
		points := 0
		for _, s := range h.Store {
			points += len(s.Points)
		}
		want := fmt.Sprintf("%d count %d rev %d pods %d points %d %s", h.Now, h.Count, h.Rev, len(h.Pods), points, names[h.Cond])
		if got := impl.HerdText(h); got != want {
			t.Errorf("HerdText(%+v) = %q, want %q", h, got, want)
		}
	}
}

func TestEventText(t *testing.T) {
	cases := []struct {
		event impl.Event
		text  string
	}{
		{event(1, 10, 2, 4), "10: moved 2 to 4"}, {event(0, 30, 2, 0), "30: scraped 2 bad 0"}, {event(2, 30, 2, 4), "30: failed 2 to 4"}, {event(3, 30, 0, 0), "30: restart"}, {event(4, 10, 4, 2), "10: hands 4 to 2"},
		{event(0, 0, 0, 100), "0: scraped 0 bad 100"}, {event(1, 0, 1000, 0), "0: moved 1000 to 0"}, {event(1, lastTick, 0, manyCount), "1000000000: moved 0 to 1000"}, {event(2, 0, 0, 0), "0: failed 0 to 0"}, {event(3, 0, 5, 6), "0: restart"}, {event(4, lastTick, 7, 7), "1000000000: hands 7 to 7"}, {impl.Event{}, "0: scraped 0 bad 0"},
		// The chapter names no events that are invalid but those of other kinds.
		{event(0, -1, -2, -3), "-1: scraped -2 bad -3"}, {event(1, -10, -1, 5000), "-10: moved -1 to 5000"}, {event(2, lastTick+1, 1, -1), "1000000001: failed 1 to -1"}, {event(3, -7, 0, 0), "-7: restart"}, {event(4, math.MinInt, math.MinInt, math.MaxInt), "-9223372036854775808: hands -9223372036854775808 to 9223372036854775807"},
		{event(-1, 10, 2, 4), ""}, {event(5, 10, 2, 4), ""}, {event(6, 0, 0, 0), ""}, {event(256, 10, 2, 4), ""}, {event(1<<32, 10, 2, 4), ""}, {event(math.MinInt, 10, 2, 4), ""}, {event(math.MaxInt, 10, 2, 4), ""},
	}
	for _, c := range cases {
		if got := impl.EventText(c.event); got != c.text {
			t.Errorf("EventText(%+v) = %q, want %q", c.event, got, c.text)
		}
	}
}

func TestCondName(t *testing.T) {
	for c, want := range []string{"none", "off", "blind", "steady", "moved", "fault"} {
		if got := impl.CondName(c); got != want {
			t.Errorf("CondName(%d) = %q, want %q", c, got, want)
		}
	}
	for _, c := range notConds() {
		if got := impl.CondName(c); got != "" {
			t.Errorf("CondName(%d) = %q", c, got)
		}
	}
}
