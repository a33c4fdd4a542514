package tests

import (
	"fmt"
	"slices"
	"strings"
	"testing"

	"loop.example/g00808/impl"
)

// The kinds of operations, as the document numbers them.
const (
	kindTick    = 0
	kindScrape  = 1
	kindPods    = 2
	kindSetup   = 3
	kindHands   = 4
	kindFaults  = 5
	kindRestart = 6
	kindLook    = 7
)

func tickOp(n int) impl.Op { return impl.Op{Kind: kindTick, A: n} }

func scrapeOp(text string) impl.Op { return impl.Op{Kind: kindScrape, Text: text} }

func podsOp(list ...impl.Pod) impl.Op { return impl.Op{Kind: kindPods, Pods: list} }

func setupOp(s impl.Setup) impl.Op { return impl.Op{Kind: kindSetup, Setup: s} }

func handsOp(count int) impl.Op { return impl.Op{Kind: kindHands, A: count} }

func faultsOp(n int) impl.Op { return impl.Op{Kind: kindFaults, A: n} }

func restartOp() impl.Op { return impl.Op{Kind: kindRestart} }

func lookOp() impl.Op { return impl.Op{Kind: kindLook} }

func event(kind int, at int, a int, b int) impl.Event {
	return impl.Event{Kind: kind, At: at, A: a, B: b}
}

func copiedSetup(s impl.Setup) impl.Setup {
	s.Goals = slices.Clone(s.Goals)
	s.Behave.Up.Policies = slices.Clone(s.Behave.Up.Policies)
	s.Behave.Down.Policies = slices.Clone(s.Behave.Down.Policies)
	return s
}

// copiedHerd and copiedOp do not depend on the program.
func copiedHerd(h impl.Herd) impl.Herd {
	h.Setup = copiedSetup(h.Setup)
	h.Pods, h.Notes, h.Moves = slices.Clone(h.Pods), slices.Clone(h.Notes), slices.Clone(h.Moves)
	h.Store = slices.Clone(h.Store)
	for i := range h.Store {
		h.Store[i].Points = slices.Clone(h.Store[i].Points)
	}
	return h
}

func copiedOp(op impl.Op) impl.Op {
	op.Pods, op.Setup = slices.Clone(op.Pods), copiedSetup(op.Setup)
	return op
}

func with(h impl.Herd, change func(*impl.Herd)) impl.Herd {
	h = copiedHerd(h)
	if change != nil {
		change(&h)
	}
	return h
}

// wantsByRule, longestByRule and stepByRule follow the document sentence by
// sentence; the herds are valid.
func wantsByRule(h impl.Herd) []int {
	var wants []int
	for _, g := range h.Setup.Goals {
		_, tally, ok := tallyByRule(h.Pods, h.Store, g.Metric, h.Now, h.Setup.Rules)
		if !ok || tally.Ready == 0 {
			wants = append(wants, -1)
			continue
		}
		wants = append(wants, wantByRule(h.Count, tally, g))
	}
	return wants
}

func lawByRule(h impl.Herd) int {
	wants := wantsByRule(h)
	if h.Count == 0 || slices.Max(wants) < 0 {
		return -1
	}
	return combinedByRule(h.Count, wants)
}

func longestByRule(b impl.Behave) int {
	longest := max(b.Up.Window, b.Down.Window)
	for _, p := range slices.Concat(b.Up.Policies, b.Down.Policies) {
		longest = max(longest, p.Period)
	}
	return longest
}

// fadedByRule is a log before a look adds to it.
func fadedByRule[E any](log []E, now int, longest int, at func(E) int) []E {
	var recent []E
	for _, e := range log {
		if age := now - at(e); age < longest {
			recent = append(recent, e)
		}
	}
	if len(recent) == longLog {
		recent = recent[1:]
	}
	return recent
}

func decisionByRule(h impl.Herd, law int) int {
	b := h.Setup.Behave
	steady := steadyByRule(b, h.Notes, h.Now, h.Count, law)
	least, most := downByRule(b.Down, h.Moves, h.Now, h.Count), upByRule(b.Up, h.Moves, h.Now, h.Count)
	return min(max(min(max(steady, least), most), b.Min), b.Max)
}

func lookByRule(h *impl.Herd) ([]impl.Event, int) {
	law := lawByRule(*h)
	if h.Count == 0 {
		h.Cond = impl.CondOff
		return nil, impl.OpIdle
	}
	if law < 0 {
		h.Cond = impl.CondBlind
		return nil, impl.OpIdle
	}
	longest := longestByRule(h.Setup.Behave)
	h.Notes = fadedByRule(h.Notes, h.Now, longest, func(n impl.Note) int { return n.At })
	h.Moves = fadedByRule(h.Moves, h.Now, longest, func(m impl.Move) int { return m.At })
	h.Notes = append(h.Notes, note(h.Now, law))
	from, x := h.Count, decisionByRule(*h, law)
	switch {
	case x == from:
		h.Cond = impl.CondSteady
		return nil, impl.OpIdle
	case h.Faults > 0:
		h.Faults--
		h.Cond = impl.CondFault
		return []impl.Event{event(2, h.Now, from, x)}, impl.OpIdle
	}
	h.Cond = impl.CondMoved
	h.Count = x
	h.Rev = min(h.Rev+1, lastTick)
	h.Moves = append(h.Moves, move(h.Now, x-from))
	return []impl.Event{event(1, h.Now, from, x)}, impl.OpDone
}

func scrapedByRule(h *impl.Herd, text string) ([]impl.Event, int) {
	known := history{}
	for _, s := range h.Store {
		known[[2]string{s.Pod, s.Metric}] = s.Points
	}
	samples, bad := scrapeByRule(text)
	puts := 0
	for _, s := range samples {
		if known.put(s) == impl.PutDone {
			puts++
		}
	}
	h.Store = known.store()
	return []impl.Event{event(0, h.Now, puts, len(bad))}, idleUnless(puts > 0)
}

func idleUnless(changed bool) int {
	if changed {
		return impl.OpDone
	}
	return impl.OpIdle
}

// refusedByRule leaves it to the functions of earlier chapters what is valid.
func refusedByRule(op impl.Op) bool {
	switch op.Kind {
	case kindTick:
		return op.A < 0 || op.A > 1000
	case kindScrape:
		lines := strings.Count(op.Text, "\n")
		if op.Text != "" && !strings.HasSuffix(op.Text, "\n") {
			lines++
		}
		return len(op.Text) > longScrape || lines > manyLines
	case kindPods:
		return !impl.PodsOk(op.Pods)
	case kindSetup:
		return !impl.SetupOk(op.Setup)
	case kindHands:
		return op.A < 0 || op.A > manyCount
	case kindFaults:
		return op.A < 0 || op.A > 10
	}
	return op.Kind != kindRestart && op.Kind != kindLook
}

func stepByRule(before impl.Herd, op impl.Op) (impl.Herd, []impl.Event, int) {
	h, op := copiedHerd(before), copiedOp(op)
	if refusedByRule(op) {
		return h, nil, impl.OpBad
	}
	switch op.Kind {
	case kindTick:
		h.Now = min(h.Now+op.A, lastTick)
		return h, nil, idleUnless(op.A != 0)
	case kindScrape:
		events, code := scrapedByRule(&h, op.Text)
		return h, events, code
	case kindPods:
		h.Pods = op.Pods
		h.Store = slices.DeleteFunc(h.Store, func(s impl.Series) bool {
			return !slices.ContainsFunc(op.Pods, func(p impl.Pod) bool { return p.Name == s.Pod })
		})
		return h, nil, impl.OpDone
	case kindSetup:
		h.Setup = op.Setup
		return h, nil, idleUnless(shown(op.Setup) != shown(before.Setup))
	case kindHands:
		if op.A == before.Count {
			return h, nil, impl.OpIdle
		}
		h.Count, h.Rev = op.A, min(h.Rev+1, lastTick)
		return h, []impl.Event{event(4, h.Now, before.Count, op.A)}, impl.OpDone
	case kindFaults:
		h.Faults = op.A
		return h, nil, idleUnless(op.A != before.Faults)
	case kindRestart:
		h.Store, h.Notes, h.Moves, h.Cond = nil, nil, nil, impl.CondNone
		return h, []impl.Event{event(3, h.Now, 0, 0)}, impl.OpDone
	}
	events, code := lookByRule(&h)
	return h, events, code
}

// roomy is a copy with room behind each slice, full of marks, since a function
// that appends to its argument writes there.
func roomySetup(s impl.Setup) impl.Setup {
	s.Goals = spare(s.Goals, impl.Goal{Metric: "mark"})
	s.Behave.Up.Policies = spare(s.Behave.Up.Policies, byPods(-77, -77))
	s.Behave.Down.Policies = spare(s.Behave.Down.Policies, byPods(-77, -77))
	return s
}

func roomyHerd(h impl.Herd) impl.Herd {
	h.Setup = roomySetup(h.Setup)
	h.Pods, h.Store = guardedPods(h.Pods), guarded(h.Store)
	h.Notes, h.Moves = spare(h.Notes, note(-77, -77)), spare(h.Moves, move(-77, -77))
	return h
}

func roomyOp(op impl.Op) impl.Op {
	op.Pods, op.Setup = guardedPods(op.Pods), roomySetup(op.Setup)
	return op
}

func andRoom[T any](list []T) []T { return list[:len(list)+2] }

// roomText shows all the memory of a roomy setup, herd or operation.
func roomText(s impl.Setup) string {
	return fmt.Sprint(s, andRoom(s.Goals), andRoom(s.Behave.Up.Policies), andRoom(s.Behave.Down.Policies))
}

func roomTextOfHerd(h impl.Herd) string {
	text := fmt.Sprint(h, roomText(h.Setup), andRoom(h.Pods), andRoom(h.Store), andRoom(h.Notes), andRoom(h.Moves))
	for _, s := range h.Store {
		text += fmt.Sprint(andRoom(s.Points))
	}
	return text
}

func roomTextOfOp(op impl.Op) string {
	return fmt.Sprint(op, roomText(op.Setup), andRoom(op.Pods))
}

// memoryOf has a writer and a reader for each slice of a herd. Of the store, the
// points come first: who overwrites the store no longer finds them.
func memoryOf(h impl.Herd) (writers []func(mark int), readers []func() string) {
	for _, s := range h.Store {
		writers = append(writers, func(mark int) { overwriteAll(s.Points, impl.Point{At: mark}) })
		readers = append(readers, func() string { return shown(s.Points) })
	}
	writers = append(writers,
		func(mark int) { overwriteAll(h.Setup.Goals, impl.Goal{Tol: mark}) },
		func(mark int) { overwriteAll(h.Setup.Behave.Up.Policies, byPods(mark, mark)) },
		func(mark int) { overwriteAll(h.Setup.Behave.Down.Policies, byPods(mark, mark)) },
		func(mark int) { overwriteAll(h.Pods, impl.Pod{Born: mark}) },
		func(mark int) { overwriteAll(h.Notes, note(mark, mark)) },
		func(mark int) { overwriteAll(h.Moves, move(mark, mark)) },
		func(mark int) { overwriteAll(h.Store, impl.Series{Points: []impl.Point{{At: mark}}}) },
	)
	readers = append(readers,
		func() string { return shown(h.Setup.Goals) },
		func() string { return shown(h.Setup.Behave.Up.Policies) },
		func() string { return shown(h.Setup.Behave.Down.Policies) },
		func() string { return shown(h.Pods) },
		func() string { return shown(h.Notes) },
		func() string { return shown(h.Moves) },
	)
	return writers, readers
}

// checkHerdApart overwrites all of a herd that a function returned, one slice
// after another. Afterwards the herd is of no use.
func checkHerdApart(t *testing.T, name string, h impl.Herd) {
	t.Helper()
	writers, readers := memoryOf(h)
	for i, write := range writers {
		before := make([]string, len(readers))
		for k, read := range readers {
			before[k] = read()
		}
		write(-1000 - i)
		for k, read := range readers {
			if i != k && read() != before[k] {
				t.Errorf("%s returns slices that share memory: %d and %d", name, i, k)
			}
		}
	}
}

func nameOf(op impl.Op) string { return fmt.Sprintf("operation %+v", op) }

// checkStep compares a step with what it shall be and with the rule, and checks
// that its arguments stay as they were and that its results are new memory.
func checkStep(t *testing.T, h impl.Herd, op impl.Op, want impl.Herd, events []impl.Event, code int) {
	t.Helper()
	givenHerd, givenOp := roomyHerd(h), roomyOp(op)
	before := roomTextOfHerd(givenHerd) + roomTextOfOp(givenOp)
	got, gotEvents, gotCode := impl.StepHerd(givenHerd, givenOp)
	if shown(got) != shown(want) || !slices.Equal(gotEvents, events) || gotCode != code {
		t.Errorf("%s\nof %+v\ngives %+v, %v, %d,\nwant %+v, %v, %d", nameOf(op), h, got, gotEvents, gotCode, want, events, code)
	}
	checkHerdApart(t, nameOf(op), got)
	overwriteAll(gotEvents, event(-1, -1, -1, -1))
	if after := roomTextOfHerd(givenHerd) + roomTextOfOp(givenOp); after != before {
		t.Errorf("%s: the arguments %s became %s", nameOf(op), before, after)
	}
	again, _, _ := impl.StepHerd(givenHerd, givenOp)
	if shown(again) != shown(want) {
		t.Errorf("%s gives %+v when it is repeated, want %+v", nameOf(op), again, want)
	}
}

// follow does a step by the rule, checks the program's, and returns the herd.
func follow(t *testing.T, h impl.Herd, op impl.Op) impl.Herd {
	t.Helper()
	want, events, code := stepByRule(h, op)
	checkStep(t, h, op, want, events, code)
	return want
}

type dice struct{ state int }

func (d *dice) roll(sides int) int {
	d.state = (d.state*1103515245 + 12345) % (1 << 31)
	return d.state / 65536 % sides
}

func pick[T any](d *dice, list ...T) T { return list[d.roll(len(list))] }

// scriptSetups are small, so that a script often reaches their limits.
func scriptSetups() []impl.Setup {
	both := []impl.Goal{cpu(1000, 100), {Metric: "ram", Target: 500, Tol: 0}}
	slow := impl.Behave{Up: sideWith(1, 4, byPods(2, 10), byPercent(50, 6)), Down: sideWith(0, 9, byPods(1, 5), byPercent(10, 12)), Min: 1, Max: 20}
	free := impl.Behave{Max: manyCount}
	upOnly := impl.Behave{Up: sideWith(0, 0, byPercent(100, 5)), Down: sideWith(2, 3), Min: 0, Max: 12}
	downOnly := impl.Behave{Up: sideWith(2, 3), Down: sideWith(1, 2, byPods(1, 3), byPods(5, 20)), Min: 2, Max: 9}
	return []impl.Setup{
		impl.DefaultSetup(),
		{Rules: impl.Rules{Delay: 2, Fresh: 9, Window: 4}, Goals: both, Behave: slow},
		{Rules: impl.Rules{Fresh: 20, Window: 1}, Goals: both[:1], Behave: free},
		{Rules: impl.Rules{Fresh: longRule, Window: longRule}, Goals: both[1:], Behave: upOnly},
		{Rules: impl.Rules{Delay: 3, Fresh: 15}, Goals: []impl.Goal{both[1], both[0], {Metric: "io", Target: 3, Tol: 50}}, Behave: downOnly},
	}
}

func randomPods(d *dice, now int) []impl.Pod {
	var list []impl.Pod
	for i := range 7 {
		if d.roll(4) == 0 {
			continue
		}
		list = append(list, impl.Pod{Name: fmt.Sprintf("p%d", i), Born: max(now-d.roll(20), 0), Phase: pick(d, 0, 0, 0, 0, 1, 2), Ready: d.roll(5) > 0})
	}
	return list
}

// randomScrape has a load for all pods together, so that their usages agree.
func randomScrape(d *dice, now int) string {
	load := pick(d, 0, 300, 900, 1000, 1100, 1500, 3000, 20000)
	var text strings.Builder
	for i := range 7 {
		for _, metric := range []string{"cpu", "ram"} {
			at := max(now-pick(d, 0, 0, 0, 1, 3, -1), 0)
			switch d.roll(12) {
			case 0:
				continue
			case 1:
				fmt.Fprintf(&text, "p%d %s %d.0 %d\n", i, metric, load, at)
			case 2:
				fmt.Fprintf(&text, "p%d %s 1 %d\n# again\n", i, metric, at)
			}
			fmt.Fprintf(&text, "p%d %s %s %d\n", i, metric, milliByRule(load+d.roll(30)), at)
		}
	}
	return text.String()
}

func randomOp(d *dice, now int) impl.Op {
	switch d.roll(40) {
	case 0, 1, 2:
		return podsOp(randomPods(d, now)...)
	case 3, 4:
		return handsOp(pick(d, 0, 1, 2, 3, 5, 8, 10, 30, manyCount, -1, manyCount+1))
	case 5, 6:
		return faultsOp(pick(d, 0, 1, 1, 2, 3, 10, -1, 11))
	case 7:
		return setupOp(pick(d, append(scriptSetups(), impl.Setup{})...))
	case 8:
		return pick(d, restartOp(), tickOp(0), tickOp(-1), tickOp(longSpan+1), podsOp(podsNamed("b", "a")...), impl.Op{Kind: -1}, impl.Op{Kind: 8})
	case 9:
		return scrapeOp(pick(d, "", "#\n", "bad\n", "p1 cpu 1 0\n", strings.Repeat("\n", manyLines+1), strings.Repeat("x", longScrape+1)))
	case 10, 11, 12, 13, 14, 15, 16, 17, 18:
		return scrapeOp(randomScrape(d, now))
	case 19, 20, 21, 22, 23, 24, 25, 26:
		return tickOp(pick(d, 1, 1, 2, 3, 5, 9, 40))
	}
	return lookOp()
}

// scriptOf knows the tick, so that the samples fit to it.
func scriptOf(seed int) []impl.Op {
	d := &dice{seed}
	now := 10
	ops := []impl.Op{tickOp(now), podsOp(randomPods(d, now)...)}
	for len(ops) < manyOps {
		op := randomOp(d, now)
		if op.Kind == kindTick && !refusedByRule(op) {
			now += op.A
		}
		ops = append(ops, op)
	}
	return ops
}

// checkWrites is promise 8 for the events of a script.
func checkWrites(t *testing.T, count int, events []impl.Event, h impl.Herd) {
	t.Helper()
	writes, at := 0, 0
	for _, e := range events {
		if e.At < at {
			t.Errorf("event %+v after %d", e, at)
		}
		at = e.At
		if e.Kind != 1 && e.Kind != 4 {
			continue
		}
		if e.A != count || e.B == count {
			t.Errorf("write %+v of the count %d", e, count)
		}
		count = e.B
		writes++
	}
	if count != h.Count || writes != h.Rev || at > h.Now {
		t.Errorf("%d writes until %d lead to %d, the herd is %+v", writes, at, count, h)
	}
}

// rates has all moves since the last restart, as the events tell them. Under
// another setup it only has those that the herd still knows: the windows before
// may have been shorter.
type rates struct{ moves []impl.Move }

// check is promise 9, and that no other operation changes the count.
func (r *rates) check(t *testing.T, h impl.Herd, op impl.Op, next impl.Herd, events []impl.Event) {
	t.Helper()
	if next.Count != h.Count && op.Kind != kindLook && op.Kind != kindHands {
		t.Errorf("%s changes the count", nameOf(op))
	}
	for _, e := range events {
		b := h.Setup.Behave
		least := min(max(downByRule(b.Down, r.moves, h.Now, h.Count), b.Min), b.Max)
		most := min(max(upByRule(b.Up, r.moves, h.Now, h.Count), b.Min), b.Max)
		if (e.Kind == 1 || e.Kind == 2) && (e.A != h.Count || e.B < least || e.B > most) {
			t.Errorf("%+v at the count %d beyond %d..%d", e, h.Count, least, most)
		}
		switch e.Kind {
		case 1:
			r.moves = append(r.moves, move(e.At, e.B-e.A))
		case 3:
			r.moves = nil
		}
	}
	if op.Kind == kindSetup {
		r.moves = slices.Clone(next.Moves)
	}
}

func playByRule(s impl.Setup, count int, ops []impl.Op) (impl.Herd, []impl.Event, []int) {
	h := impl.Herd{Setup: s, Count: count}
	var events []impl.Event
	var codes []int
	for _, op := range ops {
		next, more, code := stepByRule(h, op)
		h, events, codes = next, append(events, more...), append(codes, code)
	}
	return h, events, codes
}

// Promises 8 and 9.
func TestScriptsFollowTheRule(t *testing.T) {
	seen := map[string]int{}
	for seed := range 120 {
		setup, count := scriptSetups()[seed%5], []int{2, 0, 5, 1, manyCount, 9}[seed%6]
		ops := scriptOf(seed)
		want, events, codes := playByRule(setup, count, ops)
		got, gotEvents, gotCodes, ok := impl.PlayHerd(setup, count, ops)
		if !ok || shown(got) != shown(want) || !slices.Equal(gotEvents, events) || !slices.Equal(gotCodes, codes) {
			t.Fatalf("script %d gives\n%+v, %v, %v, %v,\nwant\n%+v, %v, %v", seed, got, gotEvents, gotCodes, ok, want, events, codes)
		}
		checkWrites(t, count, gotEvents, got)
		h, r := impl.Herd{Setup: setup, Count: count}, rates{}
		for i, op := range ops {
			next, more, code := impl.StepHerd(h, op)
			r.check(t, h, op, next, more)
			if !impl.HerdOk(next) || code != codes[i] {
				t.Errorf("script %d: operation %d gives %d and %+v", seed, i, code, next)
			}
			h = next
			seen[fmt.Sprintf("kind %d code %d", op.Kind, code)]++
			if op.Kind == kindLook {
				seen[impl.CondName(h.Cond)]++
			}
		}
		if shown(h) != shown(got) {
			t.Errorf("script %d leads to %+v, its steps to %+v", seed, got, h)
		}
	}
	for _, key := range []string{"off", "blind", "steady", "moved", "fault", "kind 0 code 0", "kind 0 code 1", "kind 0 code 2", "kind 1 code 0", "kind 1 code 1", "kind 1 code 2", "kind 2 code 0", "kind 2 code 2", "kind 3 code 0", "kind 3 code 1", "kind 3 code 2", "kind 4 code 0", "kind 4 code 1", "kind 4 code 2", "kind 5 code 0", "kind 5 code 1", "kind 5 code 2", "kind 6 code 0", "kind 7 code 0", "kind 7 code 1", "kind -1 code 2", "kind 8 code 2"} {
		if seen[key] < 10 {
			t.Errorf("%s came %d times", key, seen[key])
		}
	}
}

// TestStepsOfScripts also checks the memory of each step.
func TestStepsOfScripts(t *testing.T) {
	for seed := 500; seed < 520; seed++ {
		h := impl.Herd{Setup: scriptSetups()[seed%5], Count: 3}
		for _, op := range scriptOf(seed) {
			h = follow(t, h, op)
		}
	}
}
