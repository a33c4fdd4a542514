package tests

import (
	"fmt"
	"math"
	"regexp"
	"slices"
	"strconv"
	"strings"
	"testing"

	"loop.example/g00808/impl"
)

const (
	manyPods = 12
	longRule = 1000
)

func TestLimitsOfPods(t *testing.T) {
	if impl.MaxPods != manyPods {
		t.Errorf("limit %d", impl.MaxPods)
	}
	if impl.PodRuns != 0 || impl.PodFailed != 1 || impl.PodDeleted != 2 {
		t.Errorf("phases %d, %d and %d", impl.PodRuns, impl.PodFailed, impl.PodDeleted)
	}
	if impl.ClassReady != 0 || impl.ClassUnready != 1 || impl.ClassMissing != 2 || impl.ClassIgnored != 3 {
		t.Errorf("classes %d, %d, %d and %d", impl.ClassReady, impl.ClassUnready, impl.ClassMissing, impl.ClassIgnored)
	}
}

func phases() []int { return []int{impl.PodRuns, impl.PodFailed, impl.PodDeleted} }

func notPhases() []int {
	return []int{math.MinInt, -1, 3, 4, 256, 1 << 32, math.MaxInt}
}

// goodPods has every limit beside ordinary fields.
func goodPods() []impl.Pod {
	var list []impl.Pod
	for _, ready := range []bool{false, true} {
		for _, phase := range phases() {
			for _, name := range goodNames() {
				list = append(list, impl.Pod{Name: name, Born: 7, Phase: phase, Ready: ready})
			}
			for _, born := range goodTicks() {
				list = append(list, impl.Pod{Name: "p1", Born: born, Phase: phase, Ready: ready})
			}
		}
	}
	return list
}

// badPods each have one field that is not valid, but for the zero pod, which
// has no name either.
func badPods() []impl.Pod {
	list := []impl.Pod{{}}
	for _, ready := range []bool{false, true} {
		for _, name := range badNames() {
			list = append(list, impl.Pod{Name: name, Born: 7, Ready: ready})
		}
		for _, born := range notTicks() {
			list = append(list, impl.Pod{Name: "p1", Born: born, Ready: ready})
		}
		for _, phase := range notPhases() {
			list = append(list, impl.Pod{Name: "p1", Born: 7, Phase: phase, Ready: ready})
		}
	}
	return list
}

func TestPodOk(t *testing.T) {
	for _, p := range goodPods() {
		if !impl.PodOk(p) {
			t.Errorf("PodOk(%+v) is false", p)
		}
	}
	for _, p := range badPods() {
		if impl.PodOk(p) {
			t.Errorf("PodOk(%+v) is true", p)
		}
	}
}

// podsOf are n pods of all phases, some of them ready and none born after tick 11.
func podsOf(n int) []impl.Pod {
	var list []impl.Pod
	for i := range n {
		list = append(list, impl.Pod{Name: fmt.Sprintf("p%02d", i), Born: (7 * i) % 12, Phase: i % 5 % 3, Ready: i%2 == 0})
	}
	return list
}

type namedPods struct {
	name string
	list []impl.Pod
}

func podsNamed(names ...string) []impl.Pod {
	var list []impl.Pod
	for _, name := range names {
		list = append(list, impl.Pod{Name: name})
	}
	return list
}

func goodPodLists() []namedPods {
	lists := []namedPods{
		{"nil", nil},
		{"no pods in a slice", []impl.Pod{}},
		{"names that are prefixes", podsNamed("a", "aa", "aaa", "ab", "b")},
		{"names in bytewise order", podsNamed("0", "10", "2", "9", "a", "a0", "z")},
		{"falling ticks", []impl.Pod{{Name: "a", Born: 3}, {Name: "b", Born: 2}, {Name: "c"}}},
		{"falling phases", []impl.Pod{{Name: "a", Phase: 2}, {Name: "b", Phase: 1}, {Name: "c"}}},
		{"pods that differ in the name only", []impl.Pod{{Name: "a", Born: 3, Phase: 1, Ready: true}, {Name: "b", Born: 3, Phase: 1, Ready: true}}},
		{"all names", podsNamed(slices.Sorted(slices.Values(goodNames()[:manyPods]))...)},
	}
	for n := range manyPods + 1 {
		lists = append(lists, namedPods{fmt.Sprintf("%d pods", n), podsOf(n)})
	}
	for _, p := range goodPods() {
		lists = append(lists, namedPods{fmt.Sprintf("the pod %+v", p), []impl.Pod{p}})
	}
	return lists
}

// noPodLists each break one condition of a list of pods.
func noPodLists() []namedPods {
	twice := impl.Pod{Name: "b", Born: 5, Ready: true}
	lists := []namedPods{
		{"MaxPods + 1 pods", podsOf(manyPods + 1)},
		{"many pods", podsOf(90)},
		{"names out of order", podsNamed("b", "a")},
		{"names out of order, first", podsNamed("b", "a", "c", "d")},
		{"names out of order, last", podsNamed("a", "b", "d", "c")},
		{"names backwards", podsNamed("d", "c", "b", "a")},
		{"a prefix after its name", podsNamed("aa", "a")},
		{"names in the order of numbers", podsNamed("2", "10")},
		{"letters before digits", podsNamed("a", "0")},
		{"a repeated pod", []impl.Pod{twice, twice}},
		{"a repeated pod, first", []impl.Pod{twice, twice, {Name: "c"}, {Name: "d"}}},
		{"a repeated pod, last", []impl.Pod{{Name: "a"}, twice, twice}},
		{"a repeated name", []impl.Pod{twice, {Name: "b", Born: 6, Ready: true}}},
		{"a repeated name with another phase", []impl.Pod{twice, {Name: "b", Born: 5, Phase: 1, Ready: true}}},
		{"a repeated name of a pod that is not ready", []impl.Pod{twice, {Name: "b", Born: 5}}},
		{"a name repeated far behind", podsNamed("a", "b", "c", "a")},
		{"only one name", podsNamed(slices.Repeat([]string{"a"}, manyPods)...)},
		{"MaxPods + 1 pods of one name", podsNamed(slices.Repeat([]string{"a"}, manyPods+1)...)},
	}
	for _, p := range badPods() {
		lists = append(lists, namedPods{fmt.Sprintf("the pod %+v", p), []impl.Pod{p}})
	}
	for i := range 5 {
		name := fmt.Sprintf("p%02d", i)
		for _, p := range []impl.Pod{{Name: name + "-"}, {Name: name, Born: -1}, {Name: name, Born: lastTick + 1}, {Name: name, Phase: -1}, {Name: name, Phase: 3}} {
			list := podsOf(5)
			list[i] = p
			lists = append(lists, namedPods{fmt.Sprintf("pod %d as %+v", i, p), list})
		}
	}
	return lists
}

// guardedPods is a copy with room behind it, full of marks, since a function
// that appends to its argument writes there.
func guardedPods(list []impl.Pod) []impl.Pod {
	marks := []impl.Pod{{Name: "mark", Born: -77}, {Name: "mark", Born: -77}}
	return slices.Concat(list, marks)[:len(list)]
}

func checkGuardedPods(t *testing.T, name string, list []impl.Pod, before []impl.Pod) {
	t.Helper()
	n := len(before)
	if !slices.Equal(list[:n+2], guardedPods(before)[:n+2]) {
		t.Errorf("%s changed its pods to %+v", name, list[:n+2])
	}
}

func TestPodsOk(t *testing.T) {
	for _, c := range goodPodLists() {
		list := guardedPods(c.list)
		if !impl.PodsOk(list) {
			t.Errorf("PodsOk of %s is false", c.name)
		}
		checkGuardedPods(t, "PodsOk of "+c.name, list, c.list)
	}
	for _, c := range noPodLists() {
		list := guardedPods(c.list)
		if impl.PodsOk(list) {
			t.Errorf("PodsOk of %s is true", c.name)
		}
		checkGuardedPods(t, "PodsOk of "+c.name, list, c.list)
	}
}

func goodRules() []impl.Rules {
	list := []impl.Rules{{}, {Delay: 5, Fresh: 30, Window: 10}, {Delay: longRule, Fresh: longRule, Window: longRule}}
	for _, ticks := range []int{0, 1, 500, longRule - 1, longRule} {
		list = append(list, impl.Rules{Delay: ticks, Fresh: 30, Window: 10}, impl.Rules{Delay: 5, Fresh: ticks, Window: 10}, impl.Rules{Delay: 5, Fresh: 30, Window: ticks})
	}
	return list
}

func badRules() []impl.Rules {
	var list []impl.Rules
	for _, ticks := range []int{math.MinInt, -longRule, -1, longRule + 1, lastTick, math.MaxInt} {
		list = append(list, impl.Rules{Delay: ticks, Fresh: 30, Window: 10}, impl.Rules{Delay: 5, Fresh: ticks, Window: 10}, impl.Rules{Delay: 5, Fresh: 30, Window: ticks}, impl.Rules{Delay: ticks, Fresh: ticks, Window: ticks})
	}
	return list
}

func TestRulesOk(t *testing.T) {
	for _, r := range goodRules() {
		if !impl.RulesOk(r) {
			t.Errorf("RulesOk(%+v) is false", r)
		}
	}
	for _, r := range badRules() {
		if impl.RulesOk(r) {
			t.Errorf("RulesOk(%+v) is true", r)
		}
	}
}

type classCase struct {
	pod   impl.Pod
	now   int
	rules impl.Rules
	want  int
}

func checkClasses(t *testing.T, store []impl.Series, metric string, cases []classCase) {
	t.Helper()
	for _, c := range cases {
		argument := guarded(store)
		if got := impl.ClassOf(c.pod, argument, metric, c.now, c.rules); got != c.want {
			t.Errorf("ClassOf %+v of %q at %d by %+v = %d, want %d", c.pod, metric, c.now, c.rules, got, c.want)
		}
		var classes []int
		if c.want >= 0 {
			classes = []int{c.want}
		}
		if got := impl.ClassesOf([]impl.Pod{c.pod}, argument, metric, c.now, c.rules); !slices.Equal(got, classes) {
			t.Errorf("ClassesOf %+v of %q at %d by %+v = %v, want %v", c.pod, metric, c.now, c.rules, got, classes)
		}
		checkGuarded(t, "ClassOf", argument, store)
	}
}

func readyAt(name string, born int) impl.Pod { return impl.Pod{Name: name, Born: born, Ready: true} }

// usual are the rules of the document's examples.
func usual() impl.Rules { return impl.Rules{Delay: 5, Fresh: 30, Window: 10} }

func TestClassOfAJustBornPod(t *testing.T) {
	store := []impl.Series{seriesAt("p1", "cpu", impl.Point{At: 0}, impl.Point{At: 18, Value: 9}, impl.Point{At: 20, Value: 9})}
	ready, unready := impl.ClassReady, impl.ClassUnready
	delay := func(ticks int) impl.Rules { return impl.Rules{Delay: ticks, Fresh: 30, Window: 10} }
	checkClasses(t, store, "cpu", []classCase{
		{readyAt("p1", 18), 20, usual(), unready},
		{readyAt("p1", 14), 20, usual(), ready}, {readyAt("p1", 15), 20, usual(), ready}, {readyAt("p1", 16), 20, usual(), unready},
		{readyAt("p1", 15), 19, usual(), unready}, {readyAt("p1", 15), 21, usual(), ready},
		{readyAt("p1", 20), 20, usual(), unready}, {readyAt("p1", 20), 24, usual(), unready}, {readyAt("p1", 20), 25, usual(), ready}, {readyAt("p1", 20), 26, usual(), ready},
		{readyAt("p1", 21), 20, usual(), unready}, {readyAt("p1", lastTick), 20, usual(), unready}, {readyAt("p1", 0), 20, usual(), ready},
		{readyAt("p1", 19), 20, delay(0), ready}, {readyAt("p1", 20), 20, delay(0), ready}, {readyAt("p1", 21), 20, delay(0), unready},
		{readyAt("p1", 18), 20, delay(1), ready}, {readyAt("p1", 19), 20, delay(1), ready}, {readyAt("p1", 20), 20, delay(1), unready},
		{readyAt("p1", 0), 0, delay(0), ready}, {readyAt("p1", 0), 0, delay(1), unready}, {readyAt("p1", 0), 1, delay(1), ready}, {readyAt("p1", 1), 0, delay(0), unready},
		{readyAt("p1", 0), 20, delay(longRule), unready}, {readyAt("p1", 15), 20, delay(longRule + 1), -1}, {readyAt("p1", 15), 20, delay(-1), -1},
	})
	late := []impl.Series{seriesAt("p1", "cpu", impl.Point{At: 2000}), seriesAt("p2", "cpu", impl.Point{At: lastTick})}
	checkClasses(t, late, "cpu", []classCase{
		{readyAt("p1", 999), 2000, delay(longRule), ready}, {readyAt("p1", 1000), 2000, delay(longRule), ready}, {readyAt("p1", 1001), 2000, delay(longRule), unready},
		{readyAt("p1", 1000), 1999, delay(longRule), unready}, {readyAt("p1", 1000), 2001, delay(longRule), ready},
		{readyAt("p2", lastTick-6), lastTick, usual(), ready}, {readyAt("p2", lastTick-5), lastTick, usual(), ready}, {readyAt("p2", lastTick-4), lastTick, usual(), unready},
		{readyAt("p2", lastTick), lastTick, usual(), unready}, {readyAt("p2", lastTick), lastTick, delay(0), ready},
	})
}

func TestClassOfALateSample(t *testing.T) {
	points := []impl.Point{{At: 100, Value: 5}, {At: 200, Value: 6}}
	store := []impl.Series{seriesAt("p0", "cpu", impl.Point{At: 5000}), seriesAt("p1", "cpu", points...), seriesAt("p1", "ram", impl.Point{At: 5000}), seriesAt("p2", "cpu", impl.Point{At: 5000})}
	ready, missing := impl.ClassReady, impl.ClassMissing
	fresh := func(ticks int) impl.Rules { return impl.Rules{Delay: 5, Fresh: ticks, Window: 10} }
	pod := readyAt("p1", 0)
	checkClasses(t, store, "cpu", []classCase{
		{pod, 229, usual(), ready}, {pod, 230, usual(), ready}, {pod, 231, usual(), missing}, {pod, lastTick, usual(), missing},
		{pod, 199, usual(), ready}, {pod, 200, usual(), ready}, {pod, 201, usual(), ready}, {pod, 5, usual(), ready}, {pod, 150, usual(), ready},
		{pod, 199, fresh(0), ready}, {pod, 200, fresh(0), ready}, {pod, 201, fresh(0), missing}, {pod, 200, fresh(1), ready}, {pod, 201, fresh(1), ready}, {pod, 202, fresh(1), missing},
		{pod, 1199, fresh(longRule), ready}, {pod, 1200, fresh(longRule), ready}, {pod, 1201, fresh(longRule), missing},
		{pod, 200, fresh(longRule + 1), -1}, {pod, 200, fresh(-1), -1},
		{readyAt("p3", 0), 200, usual(), missing}, {readyAt("p", 0), 200, usual(), missing}, {readyAt("p10", 0), 200, usual(), missing},
	})
	for _, metric := range []string{"", "cp", "cpu ", "CPU", "none", "p1", "\xff", strings.Repeat("a", 5000)} {
		checkClasses(t, store, metric, []classCase{{pod, 200, usual(), missing}, {impl.Pod{Name: "p1", Phase: impl.PodFailed}, 200, usual(), impl.ClassIgnored}})
	}
	checkClasses(t, store, "ram", []classCase{{pod, 4999, usual(), ready}, {pod, 5030, usual(), ready}, {pod, 5031, usual(), missing}, {readyAt("p2", 0), 5000, usual(), missing}})
	checkClasses(t, nil, "cpu", []classCase{{pod, 0, usual(), missing}, {pod, 200, usual(), missing}, {pod, lastTick, impl.Rules{}, missing}, {impl.Pod{Name: "p1", Phase: 2}, 0, usual(), impl.ClassIgnored}})
	edge := []impl.Series{seriesAt("p1", "cpu", impl.Point{At: 0}), seriesAt("p2", "cpu", impl.Point{At: lastTick})}
	checkClasses(t, edge, "cpu", []classCase{
		{pod, 0, impl.Rules{}, ready}, {pod, 1, impl.Rules{}, missing}, {pod, longRule, fresh(longRule), ready}, {pod, longRule + 1, fresh(longRule), missing},
		{readyAt("p2", 0), lastTick, impl.Rules{}, ready}, {readyAt("p2", 0), lastTick - 1, impl.Rules{}, ready}, {readyAt("p2", 0), 0, fresh(longRule), impl.ClassUnready},
	})
}

// The first class that applies is the class, whatever else applies.
func TestClassOfEachPhase(t *testing.T) {
	store := []impl.Series{seriesAt("here", "cpu", impl.Point{At: 100, Value: 5}), seriesAt("late", "cpu", impl.Point{At: 69, Value: 5})}
	for _, phase := range phases() {
		for _, born := range []int{0, 95, 96, 100, lastTick} {
			for _, ready := range []bool{false, true} {
				here, late, none := impl.ClassReady, impl.ClassMissing, impl.ClassMissing
				if !ready || born > 95 {
					here = impl.ClassUnready
				}
				if phase != impl.PodRuns {
					here, late, none = impl.ClassIgnored, impl.ClassIgnored, impl.ClassIgnored
				}
				checkClasses(t, store, "cpu", []classCase{
					{impl.Pod{Name: "here", Born: born, Phase: phase, Ready: ready}, 100, usual(), here},
					{impl.Pod{Name: "late", Born: born, Phase: phase, Ready: ready}, 100, usual(), late},
					{impl.Pod{Name: "none", Born: born, Phase: phase, Ready: ready}, 100, usual(), none},
				})
			}
		}
	}
}

func TestClassOfRefuses(t *testing.T) {
	store := storeOf(manySeries)
	refuse := func(reason string, p impl.Pod, store []impl.Series, now int, r impl.Rules) {
		argument := guarded(store)
		if got := impl.ClassOf(p, argument, "m0", now, r); got != -1 {
			t.Errorf("ClassOf with %s = %d", reason, got)
		}
		if got := impl.ClassesOf([]impl.Pod{p}, argument, "m0", now, r); got != nil {
			t.Errorf("ClassesOf with %s = %v", reason, got)
		}
		if got, ok := impl.TallyOf([]impl.Pod{p}, argument, "m0", now, r); ok || got != (impl.Tally{}) {
			t.Errorf("TallyOf with %s = %+v, %v", reason, got, ok)
		}
		checkGuarded(t, "ClassOf with "+reason, argument, store)
	}
	pods := []impl.Pod{readyAt("p00", 0), {Name: "p00", Phase: impl.PodFailed}, {Name: "none", Phase: impl.PodDeleted}, readyAt("none", lastTick)}
	for _, p := range badPods() {
		refuse(fmt.Sprintf("the pod %+v", p), p, store, 200, usual())
	}
	for _, p := range pods {
		for _, r := range badRules() {
			refuse(fmt.Sprintf("the rules %+v", r), p, store, 200, r)
		}
		for _, now := range notTicks() {
			refuse(fmt.Sprintf("now %d", now), p, store, now, usual())
		}
		for _, c := range noStores() {
			refuse(c.name, p, c.list, 2, usual())
		}
	}
}

// podClassByRule does what the document says, without the functions of the program.
func podClassByRule(p impl.Pod, points []impl.Point, now int, r impl.Rules) int {
	fresh := len(points) > 0 && points[len(points)-1].At >= now-r.Fresh
	switch {
	case p.Phase == impl.PodFailed || p.Phase == impl.PodDeleted:
		return impl.ClassIgnored
	case !fresh:
		return impl.ClassMissing
	case p.Ready && p.Born <= now-r.Delay:
		return impl.ClassReady
	}
	return impl.ClassUnready
}

func usageByRule(points []impl.Point, now int, r impl.Rules) int {
	sum, n := 0, 0
	for _, p := range points {
		if now-r.Window < p.At && p.At <= now {
			sum += p.Value
			n++
		}
	}
	if n == 0 || sum > limit {
		return points[len(points)-1].Value
	}
	return sum / n
}

// tallyByRule has the classes of pods and what they come to.
func tallyByRule(list []impl.Pod, store []impl.Series, metric string, now int, r impl.Rules) ([]int, impl.Tally, bool) {
	var classes []int
	var tally impl.Tally
	for _, p := range list {
		var points []impl.Point
		for _, s := range store {
			if s.Pod == p.Name && s.Metric == metric {
				points = s.Points
			}
		}
		class := podClassByRule(p, points, now, r)
		classes = append(classes, class)
		switch class {
		case impl.ClassReady:
			tally.Ready++
			tally.Sum += usageByRule(points, now, r)
		case impl.ClassUnready:
			tally.Unready++
		case impl.ClassMissing:
			tally.Missing++
		}
	}
	if tally.Sum > limit {
		return classes, impl.Tally{}, false
	}
	return classes, tally, true
}

// checkTally calls all functions that look at several pods, and returns their classes.
func checkTally(t *testing.T, pods []impl.Pod, store []impl.Series, metric string, now int, r impl.Rules) []int {
	t.Helper()
	name := fmt.Sprintf("of %+v of %q in %+v at %d by %+v", pods, metric, store, now, r)
	list, argument := guardedPods(pods), guarded(store)
	want, wantTally, wantOk := tallyByRule(pods, store, metric, now, r)
	classes := impl.ClassesOf(list, argument, metric, now, r)
	if !slices.Equal(classes, want) {
		t.Errorf("ClassesOf %s = %v, want %v", name, classes, want)
	}
	tally, ok := impl.TallyOf(list, argument, metric, now, r)
	if tally != wantTally || ok != wantOk {
		t.Errorf("TallyOf %s = %+v, %v, want %+v, %v", name, tally, ok, wantTally, wantOk)
	}
	counts := make([]int, 4)
	for class := range counts {
		counts[class] = impl.CountClass(classes, class)
	}
	if counts[0]+counts[1]+counts[2]+counts[3] != len(pods) {
		t.Errorf("the classes %s are %v", name, classes)
	}
	if ok && !slices.Equal(counts[:3], []int{tally.Ready, tally.Unready, tally.Missing}) {
		t.Errorf("TallyOf %s = %+v, the classes are %v", name, tally, classes)
	}
	for i, p := range pods {
		if got := impl.ClassOf(p, argument, metric, now, r); i >= len(classes) || got != classes[i] {
			t.Errorf("ClassOf pod %d %s = %d, ClassesOf has %v", i, name, got, classes)
		}
	}
	checkGuardedPods(t, "TallyOf "+name, list, pods)
	checkGuarded(t, "TallyOf "+name, argument, store)
	return want
}

func TestEveryPodHasOneClassAndATallyCountsThem(t *testing.T) {
	total := make([]int, 4)
	for n := range manyPods + 1 {
		for seed := range 12 {
			var samples []impl.Sample
			for _, s := range arrivals(150, 10, seed) {
				s.Pod = "p0" + s.Pod[1:]
				samples = append(samples, s)
			}
			store, _ := impl.PutAll(nil, samples)
			for _, r := range []impl.Rules{{}, {Delay: 3}, {Fresh: 4}, {Window: 6}, {Delay: 45, Fresh: 3, Window: 4}, {Delay: 50, Fresh: 8, Window: 20}, {Delay: longRule, Fresh: longRule, Window: longRule}} {
				for _, now := range []int{0, 1, 40, 48, 52, 55, 60, 1200} {
					for _, class := range checkTally(t, podsOf(n), store, "m0", now, r) {
						total[class]++
					}
				}
			}
		}
	}
	if slices.Min(total) < 100 {
		t.Errorf("the classes were met %v times", total)
	}
}

// Every case of a single pod with two points is a small one.
func TestTallyOfOnePod(t *testing.T) {
	points := []impl.Point{{At: 3, Value: 10}, {At: 5, Value: 21}}
	store := []impl.Series{seriesAt("a", "m", points...)}
	for _, phase := range phases() {
		for _, ready := range []bool{false, true} {
			for born := range 8 {
				for now := range 10 {
					for rule := range 64 {
						r := impl.Rules{Delay: rule % 4, Fresh: rule / 4 % 4, Window: rule / 16}
						checkTally(t, []impl.Pod{{Name: "a", Born: born, Phase: phase, Ready: ready}}, store, "m", now, r)
					}
				}
			}
		}
	}
}

func TestClassesOf(t *testing.T) {
	store := []impl.Series{seriesAt("p1", "cpu", impl.Point{At: 12, Value: 800}, impl.Point{At: 18, Value: 1000}), seriesAt("p2", "cpu", impl.Point{At: 18, Value: 500})}
	pods := []impl.Pod{readyAt("p1", 0), {Name: "p2", Born: 3}, {Name: "p3", Phase: impl.PodFailed}, readyAt("p4", 0)}
	if got := impl.ClassesOf(pods, store, "cpu", 20, usual()); !slices.Equal(got, []int{impl.ClassReady, impl.ClassUnready, impl.ClassIgnored, impl.ClassMissing}) {
		t.Errorf("ClassesOf four pods = %v", got)
	}
	for _, c := range goodPodLists() {
		checkTally(t, c.list, storeOf(manySeries), "m0", 205, usual())
		checkTally(t, c.list, nil, "m0", 205, usual())
	}
	for _, c := range noPodLists() {
		list := guardedPods(c.list)
		if got := impl.ClassesOf(list, storeOf(manySeries), "m0", 205, usual()); got != nil {
			t.Errorf("ClassesOf %s = %v", c.name, got)
		}
		checkGuardedPods(t, "ClassesOf "+c.name, list, c.list)
	}
}

// noView calls a function for arguments that give no pod a class.
func noView(call func(reason string, store []impl.Series, now int, r impl.Rules)) {
	for _, r := range badRules() {
		call(fmt.Sprintf("the rules %+v", r), nil, 20, r)
	}
	for _, now := range notTicks() {
		call(fmt.Sprintf("now %d", now), nil, now, usual())
	}
	for _, c := range noStores() {
		call(c.name, c.list, 20, usual())
	}
}

func TestListsOfPodsThatHaveNoClasses(t *testing.T) {
	noView(func(reason string, store []impl.Series, now int, r impl.Rules) {
		for n := range manyPods + 2 {
			if got := impl.ClassesOf(podsOf(n), store, "m0", now, r); len(got) > 0 {
				t.Errorf("ClassesOf %d pods with %s = %v", n, reason, got)
			}
			// Without pods no class is asked for, so that nothing is refused.
			tally, ok := impl.TallyOf(podsOf(n), store, "m0", now, r)
			if tally != (impl.Tally{}) || ok != (n == 0) {
				t.Errorf("TallyOf %d pods with %s = %+v, %v", n, reason, tally, ok)
			}
		}
	})
}

func TestCountClass(t *testing.T) {
	mixed := []int{0, 1, 2, 3, 2, -1, 0, 7, 2, 3, math.MinInt, math.MaxInt}
	cases := []struct {
		classes     []int
		class, want int
	}{
		{nil, 0, 0}, {[]int{}, 3, 0}, {[]int{3}, 3, 1}, {[]int{3}, 0, 0}, {[]int{0}, 0, 1}, {mixed, 0, 2}, {mixed, 1, 1}, {mixed, 2, 3}, {mixed, 3, 2}, {mixed, 4, 0},
		{mixed, -1, 1}, {mixed, 7, 1}, {mixed, math.MinInt, 1}, {mixed, math.MaxInt, 1}, {filled(5000, 2), 2, 5000}, {filled(5000, 2), 1, 0}, {append(filled(manyPods, 1), 2), 1, manyPods},
	}
	for _, c := range cases {
		before := slices.Clone(c.classes)
		if got := impl.CountClass(c.classes, c.class); got != c.want {
			t.Errorf("CountClass(%v, %d) = %d, want %d", c.classes, c.class, got, c.want)
		}
		if !slices.Equal(c.classes, before) {
			t.Errorf("CountClass changed its argument to %v", c.classes)
		}
	}
}

type tallyCase struct {
	name  string
	pods  []impl.Pod
	store []impl.Series
	now   int
	rules impl.Rules
	want  impl.Tally
	ok    bool
}

func checkTallies(t *testing.T, cases []tallyCase) {
	t.Helper()
	for _, c := range cases {
		got, ok := impl.TallyOf(c.pods, c.store, "cpu", c.now, c.rules)
		if got != c.want || ok != c.ok {
			t.Errorf("TallyOf %s = %+v, %v, want %+v, %v", c.name, got, ok, c.want, c.ok)
		}
		checkTally(t, c.pods, c.store, "cpu", c.now, c.rules)
	}
}

func TestTallyOf(t *testing.T) {
	store := []impl.Series{
		seriesAt("p1", "cpu", impl.Point{At: 12, Value: 800}, impl.Point{At: 18, Value: 1000}), seriesAt("p1", "ram", impl.Point{At: 18, Value: 77777}),
		seriesAt("p2", "cpu", impl.Point{At: 18, Value: 500}), seriesAt("p3", "cpu", impl.Point{At: 19, Value: 66666}), seriesAt("p5", "cpu", impl.Point{At: 16, Value: 31}, impl.Point{At: 17, Value: 30}),
	}
	four := []impl.Pod{readyAt("p1", 0), {Name: "p2", Born: 3}, {Name: "p3", Phase: impl.PodFailed, Ready: true}, readyAt("p4", 0)}
	five := append(slices.Clone(four), readyAt("p5", 0))
	checkTallies(t, []tallyCase{
		{"no pods", nil, store, 20, usual(), impl.Tally{}, true},
		{"no pods and no store", []impl.Pod{}, nil, 20, usual(), impl.Tally{}, true},
		{"a pod of each class", four, store, 20, usual(), impl.Tally{Ready: 1, Unready: 1, Missing: 1, Sum: 900}, true},
		{"a pod of each class, too late", four, store, 60, usual(), impl.Tally{Missing: 3}, true},
		{"a pod of each class, too early", four, store, 4, usual(), impl.Tally{Unready: 2, Missing: 1}, true},
		{"two ready pods", five, store, 20, usual(), impl.Tally{Ready: 2, Unready: 1, Missing: 1, Sum: 930}, true},
		{"ignored pods only", []impl.Pod{four[2], {Name: "p5", Phase: impl.PodDeleted, Ready: true}}, store, 20, usual(), impl.Tally{}, true},
		{"a ready pod that uses nothing", four[:1], []impl.Series{seriesAt("p1", "cpu", impl.Point{At: 20})}, 20, usual(), impl.Tally{Ready: 1}, true},
		{"pods and no store", four, nil, 20, usual(), impl.Tally{Missing: 3}, true},
	})
	if got, ok := impl.TallyOf(four, store, "ram", 20, usual()); !ok || got != (impl.Tally{Ready: 1, Missing: 2, Sum: 77777}) {
		t.Errorf("TallyOf another metric = %+v, %v", got, ok)
	}
	if got, ok := impl.TallyOf(four, store, "no metric", 20, usual()); !ok || got != (impl.Tally{Missing: 3}) {
		t.Errorf("TallyOf what is no metric = %+v, %v", got, ok)
	}
	for _, c := range noPodLists() {
		list := guardedPods(c.list)
		if got, ok := impl.TallyOf(list, store, "cpu", 20, usual()); ok || got != (impl.Tally{}) {
			t.Errorf("TallyOf %s = %+v, %v", c.name, got, ok)
		}
		checkGuardedPods(t, "TallyOf "+c.name, list, c.list)
	}
}

func TestUsagesOfWindows(t *testing.T) {
	points := []impl.Point{{At: 1000, Value: 100}, {At: 1990, Value: 201}, {At: 1999, Value: 302}, {At: 2000, Value: 400}}
	store := []impl.Series{seriesAt("p1", "cpu", points...)}
	pods := []impl.Pod{readyAt("p1", 0)}
	at := func(now int, window int, sum int) tallyCase {
		return tallyCase{fmt.Sprintf("now %d and the window %d", now, window), pods, store, now, impl.Rules{Fresh: longRule, Window: window}, impl.Tally{Ready: 1, Sum: sum}, true}
	}
	checkTallies(t, []tallyCase{
		at(2000, 0, 400), at(1999, 0, 400), at(1000, 0, 400), at(0, 0, 400), at(3000, 0, 400),
		at(2000, 1, 400), at(2000, 2, 351), at(2000, 10, 351), at(2000, 11, 301), at(2000, 999, 301), at(2000, longRule, 301), at(1999, longRule, 201),
		at(2001, 1, 400), at(2001, 2, 400), at(2001, 3, 351), at(1999, 1, 302), at(1999, 9, 302), at(1999, 10, 251), at(1998, 8, 400), at(1998, 9, 201),
		at(999, 5, 400), at(1000, 1, 100), at(0, longRule, 400), at(999, longRule, 400), at(1000, longRule, 100), at(3000, longRule, 400), at(2999, longRule, 400), at(2998, longRule, 351),
	})
	for _, window := range []int{-1, longRule + 1} {
		if got, ok := impl.TallyOf(pods, store, "cpu", 2000, impl.Rules{Fresh: longRule, Window: window}); ok || got != (impl.Tally{}) {
			t.Errorf("TallyOf with the window %d = %+v, %v", window, got, ok)
		}
	}
	edge := []impl.Series{seriesAt("p1", "cpu", impl.Point{At: 0, Value: 10}, impl.Point{At: 1, Value: 21}), seriesAt("p2", "cpu", impl.Point{At: lastTick - 1, Value: 10}, impl.Point{At: lastTick, Value: 21})}
	checkTallies(t, []tallyCase{
		{"a window from before tick 0", pods, edge, 0, impl.Rules{Window: 1}, impl.Tally{Ready: 1, Sum: 10}, true},
		{"a window from tick 0 on", pods, edge, 1, impl.Rules{Window: 1}, impl.Tally{Ready: 1, Sum: 21}, true},
		{"a window of all ticks", pods, edge, 1, impl.Rules{Window: 2}, impl.Tally{Ready: 1, Sum: 15}, true},
		{"a window of no ticks", pods, edge, 0, impl.Rules{}, impl.Tally{Ready: 1, Sum: 21}, true},
		{"a window at MaxTick", []impl.Pod{readyAt("p2", 0)}, edge, lastTick, impl.Rules{Window: 2}, impl.Tally{Ready: 1, Sum: 15}, true},
		{"a window of no ticks at MaxTick", []impl.Pod{readyAt("p2", 0)}, edge, lastTick, impl.Rules{}, impl.Tally{Ready: 1, Sum: 21}, true},
	})
}

func TestTalliesOfLargeSums(t *testing.T) {
	point := func(size int) []impl.Point { return []impl.Point{{At: 20, Value: size}} }
	pods := []impl.Pod{readyAt("p1", 0), readyAt("p2", 0), readyAt("p3", 0)}
	sizes := func(a int, b int, c int) []impl.Series {
		return []impl.Series{seriesAt("p1", "cpu", point(a)...), seriesAt("p2", "cpu", point(b)...), seriesAt("p3", "cpu", point(c)...)}
	}
	unready := []impl.Pod{pods[0], {Name: "p2"}, pods[2]}
	failed := []impl.Pod{pods[0], {Name: "p2", Phase: impl.PodFailed, Ready: true}, pods[2]}
	checkTallies(t, []tallyCase{
		{"one pod at the limit", pods[:1], sizes(limit, 1, 1), 20, usual(), impl.Tally{Ready: 1, Sum: limit}, true},
		{"a sum at the limit", pods, sizes(limit-2, 1, 1), 20, usual(), impl.Tally{Ready: 3, Sum: limit}, true},
		{"a sum at the limit before the last pod", pods, sizes(limit, 0, 0), 20, usual(), impl.Tally{Ready: 3, Sum: limit}, true},
		{"a sum beyond the limit", pods, sizes(limit-2, 1, 2), 20, usual(), impl.Tally{}, false},
		{"a sum beyond the limit before the last pod", pods, sizes(limit, 1, 0), 20, usual(), impl.Tally{}, false},
		{"three pods at the limit", pods, sizes(limit, limit, limit), 20, usual(), impl.Tally{}, false},
		{"an unready pod at the limit", unready, sizes(limit-1, limit, 1), 20, usual(), impl.Tally{Ready: 2, Unready: 1, Sum: limit}, true},
		{"an ignored pod at the limit", failed, sizes(limit-1, limit, 1), 20, usual(), impl.Tally{Ready: 2, Sum: limit}, true},
		{"a missing pod at the limit", pods[:2], []impl.Series{seriesAt("p1", "cpu", point(limit)...), seriesAt("p2", "cpu", impl.Point{At: 1, Value: limit})}, 40, usual(), impl.Tally{Ready: 1, Missing: 1, Sum: limit}, true},
		{"points whose sum is at the limit", pods[:1], []impl.Series{seriesAt("p1", "cpu", impl.Point{At: 19, Value: limit - 9}, impl.Point{At: 20, Value: 9})}, 20, usual(), impl.Tally{Ready: 1, Sum: limit / 2}, true},
		// The sum of these points is clamped, so the last one counts.
		{"points whose sum is beyond the limit", pods[:1], []impl.Series{seriesAt("p1", "cpu", impl.Point{At: 19, Value: limit - 9}, impl.Point{At: 20, Value: 10})}, 20, usual(), impl.Tally{Ready: 1, Sum: 10}, true},
		{"points whose sum is beyond the limit, the last one after now", pods[:1], []impl.Series{seriesAt("p1", "cpu", impl.Point{At: 19, Value: limit}, impl.Point{At: 20, Value: 10}, impl.Point{At: 21, Value: 7})}, 20, usual(), impl.Tally{Ready: 1, Sum: 7}, true},
	})
}

func TestPodLine(t *testing.T) {
	cases := []struct {
		p    impl.Pod
		line string
	}{
		{impl.Pod{Name: "p3", Phase: impl.PodFailed}, "p3 0 failed unready"},
		{impl.Pod{Name: "p2", Born: 3}, "p2 3 runs unready"},
		{impl.Pod{Name: "p2", Born: 3, Ready: true}, "p2 3 runs ready"},
		{impl.Pod{Name: "a", Born: 10, Phase: impl.PodFailed, Ready: true}, "a 10 failed ready"},
		{impl.Pod{Name: "0", Born: 1, Phase: impl.PodDeleted}, "0 1 deleted unready"},
		{impl.Pod{Name: "abcdefghijkl", Born: lastTick, Phase: impl.PodDeleted, Ready: true}, "abcdefghijkl 1000000000 deleted ready"},
		{impl.Pod{Name: "ready", Born: 999999999, Phase: impl.PodRuns}, "ready 999999999 runs unready"},
	}
	for _, c := range cases {
		if got := impl.PodLine(c.p); got != c.line {
			t.Errorf("PodLine(%+v) = %q, want %q", c.p, got, c.line)
		}
	}
	for _, p := range badPods() {
		if got := impl.PodLine(p); got != "" {
			t.Errorf("PodLine(%+v) = %q", p, got)
		}
	}
}

func TestPodsAreReadAsTheyWereWritten(t *testing.T) {
	seen := map[string]bool{}
	for _, p := range goodPods() {
		line := impl.PodLine(p)
		if got, ok := impl.ParsePod(line); !ok || got != p {
			t.Errorf("ParsePod(%q) = %+v, %v, want %+v", line, got, ok, p)
		}
		checkPodLine(t, line)
		seen[line] = true
	}
	if len(seen) != len(goodPods()) {
		t.Errorf("%d pods have %d lines", len(goodPods()), len(seen))
	}
}

// podGrammar says independently of the program what PodLine writes, but for the limit of the tick.
var podGrammar = regexp.MustCompile(`\A([a-z0-9]{1,12}) (0|[1-9][0-9]*) (runs|failed|deleted) (ready|unready)\z`)

func podByGrammar(line string) (impl.Pod, bool) {
	m := podGrammar.FindStringSubmatch(line)
	if m == nil {
		return impl.Pod{}, false
	}
	born, ok := exactUpTo(m[2], 1, lastTick)
	if !ok {
		return impl.Pod{}, false
	}
	phase := slices.Index([]string{"runs", "failed", "deleted"}, m[3])
	return impl.Pod{Name: m[1], Born: born, Phase: phase, Ready: m[4] == "ready"}, true
}

func checkPodLine(t *testing.T, line string) {
	t.Helper()
	want, written := podByGrammar(line)
	if got, ok := impl.ParsePod(line); got != want || ok != written {
		t.Errorf("ParsePod(%q) = %+v, %v, want %+v, %v", line, got, ok, want, written)
	}
}

func checkNoPod(t *testing.T, line string) {
	t.Helper()
	if got, ok := impl.ParsePod(line); ok || got != (impl.Pod{}) {
		t.Errorf("ParsePod(%q) = %+v, %v", line, got, ok)
	}
}

func TestParsePodRefuses(t *testing.T) {
	lines := []string{
		"p2 03 runs unready", "", " ", "  ", "   ", "    ", "bad", "p2", "p2 3", "p2 3 runs", "p2 3 runs ", "3 runs ready", "p2 runs ready", "p2 3 ready", "p2 3 runs unready 1", "p2 3 runs runs ready", "p2 3 3 runs ready",
		" p2 3 runs ready", "p2 3 runs ready ", "p2  3 runs ready", "p2 3  runs ready", "p2 3 runs  ready", "p2\t3\truns\tready", "p2 3 runs\tready", "p2 3 runs ready\n", "p2 3 runs ready\r", "\np2 3 runs ready", "p2 3 runs ready\x00",
		"p2 00 runs ready", "p2 +3 runs ready", "p2 -3 runs ready", "p2 -0 runs ready", "p2 +0 runs ready", "p2 3.0 runs ready", "p2 1e3 runs ready", "p2 0x3 runs ready", "p2 1_0 runs ready", "p2 x runs ready", "p2 ３ runs ready", "p2  runs ready",
		"p2 1000000001 runs ready", "p2 4294967299 runs ready", "p2 9223372036854775808 runs ready", "p2 18446744073709551619 runs ready", "p2 -9223372036854775808 runs ready", "p2 99999999999999999999999 runs ready",
		"p2 3 run ready", "p2 3 Runs ready", "p2 3 RUNS ready", "p2 3 running ready", "p2 3 fail ready", "p2 3 faileD ready", "p2 3 delete ready", "p2 3 deletes ready", "p2 3 gone ready", "p2 3 0 ready", "p2 3 1 ready", "p2 3 -1 ready", "p2 3  ready", "p2 3 ready ready",
		"p2 3 runs", "p2 3 runs Ready", "p2 3 runs READY", "p2 3 runs unReady", "p2 3 runs un", "p2 3 runs read", "p2 3 runs readyy", "p2 3 runs not", "p2 3 runs not ready", "p2 3 runs true", "p2 3 runs false", "p2 3 runs 1", "p2 3 runs runs", "p2 3 runs un ready", "p2 3 runs ununready",
		" 3 runs ready", "P2 3 runs ready", "p-2 3 runs ready", "é 3 runs ready", "p\xff 3 runs ready", "abcdefghijklm 3 runs ready", "# p2 3 runs ready", "p2,3,runs,ready", "p2 3 runs ready;", "p2\u00a03\u00a0runs\u00a0ready", "ready runs 3 p2",
		strings.Repeat(" ", 5000), strings.Repeat("a", 5000), "p2 " + strings.Repeat("0", 5000) + " runs ready", "p2 " + strings.Repeat("9", 5000) + " runs ready", "p2 3 runs " + strings.Repeat("ready", 1000), strings.Repeat("p2 3 runs ready ", 1000),
	}
	for _, line := range lines {
		checkNoPod(t, line)
	}
	// An invalid pod has the empty line, but that is the line of no pod.
	for _, p := range badPods() {
		checkNoPod(t, impl.PodLine(p))
		for _, phase := range []string{"runs", "failed", "deleted", "", strconv.Itoa(p.Phase)} {
			checkPodLine(t, fmt.Sprintf("%s %d %s ready", p.Name, p.Born, phase))
		}
	}
}

func TestPodLinesOfAllWords(t *testing.T) {
	names := []string{"p2", "0", "", "P2", "abcdefghijklm", "p2 p2", " p2"}
	borns := []string{"0", "3", "03", "-3", "+3", "", "1000000000", "1000000001", "3 ", "runs"}
	words := []string{"runs", "failed", "deleted", "Runs", "run", "", "0", "ready", "runs "}
	readies := []string{"ready", "unready", "Ready", "", "runs", "1", "ready "}
	written := 0
	for _, name := range names {
		for _, born := range borns {
			for _, word := range words {
				for _, ready := range readies {
					line := name + " " + born + " " + word + " " + ready
					checkPodLine(t, line)
					if _, ok := podByGrammar(line); ok {
						written++
					}
				}
			}
		}
	}
	if written != 2*3*3*2 {
		t.Errorf("%d lines are those of a pod", written)
	}
}

// A line that differs from a written one in a single byte is the likeliest to be read by mistake.
func TestPodLinesWithOneByteChanged(t *testing.T) {
	lines := []string{"p3 0 failed unready", "p2 3 runs ready", "abcdefghijkl 1000000000 deleted ready", "0 10 deleted unready", "a 999999999 runs unready"}
	for _, line := range lines {
		for i := range len(line) {
			for b := range 256 {
				checkPodLine(t, line[:i]+string([]byte{byte(b)})+line[i+1:])
				checkPodLine(t, line[:i]+string([]byte{byte(b)})+line[i:])
			}
			checkPodLine(t, line[:i]+line[i+1:])
			checkPodLine(t, line[:i])
			checkPodLine(t, line[i:])
		}
		for b := range 256 {
			checkPodLine(t, line+string([]byte{byte(b)}))
		}
	}
}

func TestAliveOf(t *testing.T) {
	runs, failed, deleted := impl.PodRuns, impl.PodFailed, impl.PodDeleted
	cases := []struct {
		phases []int
		want   int
	}{
		{nil, 0}, {[]int{runs}, 1}, {[]int{failed}, 0}, {[]int{deleted}, 0}, {[]int{runs, failed, deleted}, 1}, {[]int{failed, deleted, runs, runs}, 2}, {[]int{deleted, failed}, 0},
		{filled(manyPods, runs), manyPods}, {filled(manyPods, failed), 0}, {filled(manyPods, deleted), 0}, {append(filled(manyPods-1, deleted), runs), 1}, {filled(manyPods+1, runs), -1}, {filled(manyPods+1, failed), -1},
	}
	for _, c := range cases {
		var pods []impl.Pod
		for i, phase := range c.phases {
			pods = append(pods, impl.Pod{Name: fmt.Sprintf("p%02d", i), Born: lastTick - i, Phase: phase, Ready: i%2 == 0})
		}
		if got := impl.AliveOf(pods); got != c.want {
			t.Errorf("AliveOf the phases %v = %d, want %d", c.phases, got, c.want)
		}
	}
	for _, c := range goodPodLists() {
		list := guardedPods(c.list)
		want := 0
		for _, p := range c.list {
			if p.Phase == impl.PodRuns {
				want++
			}
		}
		if got := impl.AliveOf(list); got != want {
			t.Errorf("AliveOf %s = %d, want %d", c.name, got, want)
		}
		checkGuardedPods(t, "AliveOf "+c.name, list, c.list)
	}
	for _, c := range noPodLists() {
		list := guardedPods(c.list)
		if got := impl.AliveOf(list); got != -1 {
			t.Errorf("AliveOf %s = %d", c.name, got)
		}
		checkGuardedPods(t, "AliveOf "+c.name, list, c.list)
	}
}
