package tests

import (
	"cmp"
	"fmt"
	"math"
	"slices"
	"strconv"
	"testing"

	"loop.example/g00808/impl"
)

const (
	longSeries = 12
	manySeries = 24
)

func TestLimitsOfSeries(t *testing.T) {
	if impl.Keep != longSeries || impl.MaxSeries != manySeries {
		t.Errorf("limits %d and %d", impl.Keep, impl.MaxSeries)
	}
	if impl.PutDone != 0 || impl.PutOld != 1 || impl.PutFull != 2 || impl.PutBad != 3 {
		t.Errorf("codes %d, %d, %d and %d", impl.PutDone, impl.PutOld, impl.PutFull, impl.PutBad)
	}
}

func seriesAt(pod string, metric string, points ...impl.Point) impl.Series {
	return impl.Series{Pod: pod, Metric: metric, Points: points}
}

// pointsUpTo are n points that end at a tick; no two have the same Value.
func pointsUpTo(n int, last int) []impl.Point {
	var points []impl.Point
	for i := range n {
		points = append(points, impl.Point{At: last - 10*(n-1-i), Value: 1000*n + i})
	}
	return points
}

// storeOf is a store of n series with up to Keep points each.
func storeOf(n int) []impl.Series {
	var list []impl.Series
	for i := range n {
		list = append(list, seriesAt(fmt.Sprintf("p%02d", i/2), "m"+strconv.Itoa(i%2), pointsUpTo(1+i%longSeries, 200+i)...))
	}
	return list
}

func sameSeries(a []impl.Series, b []impl.Series) bool {
	return slices.EqualFunc(a, b, func(a impl.Series, b impl.Series) bool {
		return a.Pod == b.Pod && a.Metric == b.Metric && slices.Equal(a.Points, b.Points)
	})
}

func mark() impl.Point { return impl.Point{At: -77, Value: -77} }

// guarded is a copy with room behind each slice, full of marks, since a
// function that appends to its argument writes there.
func guarded(list []impl.Series) []impl.Series {
	whole := make([]impl.Series, len(list)+2)
	for i := range whole {
		whole[i].Pod = "mark"
	}
	for i, s := range list {
		points := slices.Concat(s.Points, []impl.Point{mark(), mark()})
		s.Points = points[:len(s.Points)]
		whole[i] = s
	}
	return whole[:len(list)]
}

func checkGuarded(t *testing.T, name string, list []impl.Series, before []impl.Series) {
	whole := list[:len(before)+2]
	if !sameSeries(list, before) || whole[len(before)].Pod != "mark" || whole[len(before)+1].Pod != "mark" {
		t.Errorf("%s changed its argument", name)
		return
	}
	for _, s := range list {
		n := len(s.Points)
		if rest := s.Points[n : n+2]; rest[0] != mark() || rest[1] != mark() {
			t.Errorf("%s changed the memory behind the points of its argument", name)
		}
	}
}

// overwrite changes all the memory that is reached by a list.
func overwrite(list []impl.Series) {
	for _, s := range list[:cap(list)] {
		overwritePoints(s.Points)
	}
	whole := list[:cap(list)]
	for i := range whole {
		whole[i] = seriesAt("x", "x", mark())
	}
}

func overwritePoints(points []impl.Point) {
	whole := points[:cap(points)]
	for i := range whole {
		whole[i] = mark()
	}
}

func checkApart(t *testing.T, name string, list []impl.Series) {
	for i := range list {
		others := slices.Delete(slices.Clone(list), i, i+1)
		before := guarded(others)
		points := slices.Clone(list[i].Points)
		overwritePoints(list[i].Points)
		if !sameSeries(others, before) {
			t.Errorf("%s returns series that share memory", name)
		}
		copy(list[i].Points, points)
	}
}

// checkStore calls a function that returns a list, and checks the list and that
// it is new memory.
func checkStore(t *testing.T, name string, list []impl.Series, call func([]impl.Series) []impl.Series, want []impl.Series) {
	argument := guarded(list)
	got := call(argument)
	if !sameSeries(got, want) {
		t.Errorf("%s = %+v, want %+v", name, got, want)
	}
	checkGuarded(t, name, argument, list)
	checkApart(t, name, got)
	overwrite(got)
	checkGuarded(t, name+" by its result", argument, list)
}

type namedStore struct {
	name string
	list []impl.Series
}

func goodStores() []namedStore {
	stores := []namedStore{
		{"nil", nil},
		{"no series", []impl.Series{}},
		{"the limits of ticks and sizes", []impl.Series{seriesAt("a", "b", impl.Point{At: 0, Value: limit}, impl.Point{At: lastTick, Value: 0})}},
		{"neighbouring ticks", []impl.Series{seriesAt("a", "b", impl.Point{}, impl.Point{At: 1}, impl.Point{At: 2})}},
		{"zero points", []impl.Series{seriesAt("a", "b", impl.Point{}), seriesAt("a", "c", impl.Point{}), seriesAt("b", "b", impl.Point{})}},
		{"names that are prefixes", []impl.Series{seriesAt("a", "z", impl.Point{}), seriesAt("aa", "a", impl.Point{}), seriesAt("aa", "aa", impl.Point{}), seriesAt("b", "0", impl.Point{})}},
		{"names in bytewise order", []impl.Series{seriesAt("10", "9", impl.Point{}), seriesAt("10", "a", impl.Point{}), seriesAt("2", "10", impl.Point{}), seriesAt("2", "9", impl.Point{}), seriesAt("p", "p", impl.Point{})}},
		{"falling values", []impl.Series{seriesAt("a", "b", impl.Point{At: 1, Value: 9}, impl.Point{At: 2, Value: 8}, impl.Point{At: 3, Value: 8})}},
	}
	for n := 1; n <= longSeries; n++ {
		stores = append(stores, namedStore{fmt.Sprintf("a series of %d points", n), []impl.Series{seriesAt("p1", "cpu", pointsUpTo(n, 500)...)}})
	}
	for n := range manySeries + 1 {
		stores = append(stores, namedStore{fmt.Sprintf("%d series", n), storeOf(n)})
	}
	for _, name := range goodNames() {
		stores = append(stores, namedStore{"the pod " + name, []impl.Series{seriesAt(name, "cpu", impl.Point{})}}, namedStore{"the metric " + name, []impl.Series{seriesAt("p1", name, impl.Point{})}})
	}
	return stores
}

// broken is a store of several series of which the one at index i is changed.
func broken(i int, change func(*impl.Series)) []impl.Series {
	list := storeOf(5)
	change(&list[i])
	return list
}

// brokenPoints are lists of points that no series has.
func brokenPoints() map[string][]impl.Point {
	lists := map[string][]impl.Point{
		"nil":                               nil,
		"no points":                         {},
		"Keep + 1 points":                   pointsUpTo(longSeries+1, 500),
		"many points":                       pointsUpTo(100, 5000),
		"a repeated tick":                   {{At: 5, Value: 1}, {At: 5, Value: 2}},
		"a repeated point":                  {{At: 5, Value: 1}, {At: 5, Value: 1}},
		"a repeated zero point":             {{}, {}},
		"repeated zero points":              make([]impl.Point, longSeries),
		"a repeated tick, last":             {{At: 1}, {At: 2}, {At: 3}, {At: 3, Value: 1}},
		"a repeated tick, first":            {{At: 1}, {At: 1, Value: 1}, {At: 2}, {At: 3}},
		"points out of order":               {{At: 6, Value: 1}, {At: 5, Value: 2}},
		"a zero point after another one":    {{At: 1}, {}},
		"points out of order, last":         {{At: 1}, {At: 2}, {At: 4}, {At: 3}},
		"points out of order, first":        {{At: 2}, {At: 1}, {At: 3}, {At: 4}},
		"a point that is repeated later":    {{At: 1}, {At: 2}, {At: 1}},
		"the limits of ticks out of order":  {{At: lastTick}, {At: 0}},
		"Keep points, exchanged at the end": append(pointsUpTo(longSeries-1, 400), impl.Point{At: 399}),
	}
	for _, at := range notTicks() {
		lists[fmt.Sprintf("the tick %d", at)] = []impl.Point{{At: at}}
	}
	for _, size := range notSizes() {
		lists[fmt.Sprintf("the size %d", size)] = []impl.Point{{At: 1, Value: size}}
		lists[fmt.Sprintf("the size %d, between", size)] = []impl.Point{{At: 1}, {At: 2, Value: size}, {At: 3}}
		lists[fmt.Sprintf("the size %d, last", size)] = []impl.Point{{At: 1}, {At: 2}, {At: 3, Value: size}}
	}
	lists["the tick -1 before others"] = []impl.Point{{At: -1}, {At: 0}, {At: 1}}
	lists["the tick MaxTick + 1 after others"] = []impl.Point{{At: 0}, {At: lastTick}, {At: lastTick + 1}}
	return lists
}

// noStores each break one condition of a store.
func noStores() []namedStore {
	p := impl.Point{At: 1}
	lists := []namedStore{
		{"MaxSeries + 1 series", storeOf(manySeries + 1)},
		{"many series", storeOf(100)},
		{"the zero series", []impl.Series{{}}},
		{"pods out of order", []impl.Series{seriesAt("b", "a", p), seriesAt("a", "b", p)}},
		{"pods out of order, last", []impl.Series{seriesAt("a", "a", p), seriesAt("c", "a", p), seriesAt("b", "a", p)}},
		{"pods out of order, first", []impl.Series{seriesAt("b", "a", p), seriesAt("a", "a", p), seriesAt("c", "a", p)}},
		{"a prefix after its pod", []impl.Series{seriesAt("aa", "a", p), seriesAt("a", "a", p)}},
		{"pods in the order of numbers", []impl.Series{seriesAt("2", "a", p), seriesAt("10", "a", p)}},
		{"metrics out of order", []impl.Series{seriesAt("a", "b", p), seriesAt("a", "a", p)}},
		{"a metric's prefix after it", []impl.Series{seriesAt("a", "bb", p), seriesAt("a", "b", p)}},
		{"names in order only when joined", []impl.Series{seriesAt("ab", "a", p), seriesAt("a", "c", p)}},
		{"a repeated series", []impl.Series{seriesAt("a", "b", p), seriesAt("a", "b", p)}},
		{"a repeated pod and metric", []impl.Series{seriesAt("a", "b", p), seriesAt("a", "b", impl.Point{At: 2, Value: 3})}},
		{"a repeated pod and metric, last", []impl.Series{seriesAt("a", "a", p), seriesAt("a", "b", p), seriesAt("a", "b", p)}},
		{"a pod and metric repeated far behind", []impl.Series{seriesAt("a", "a", p), seriesAt("a", "b", p), seriesAt("a", "a", p)}},
	}
	for _, name := range badNames() {
		lists = append(lists, namedStore{fmt.Sprintf("the pod %q", name), []impl.Series{seriesAt(name, "cpu", p)}}, namedStore{fmt.Sprintf("the metric %q", name), []impl.Series{seriesAt("p1", name, p)}})
	}
	for name, points := range brokenPoints() {
		lists = append(lists, namedStore{name, []impl.Series{seriesAt("p1", "cpu", points...)}})
		for i := range 5 {
			lists = append(lists, namedStore{fmt.Sprintf("%s in series %d", name, i), broken(i, func(s *impl.Series) { s.Points = points })})
		}
	}
	return lists
}

func TestStoreOk(t *testing.T) {
	for _, c := range goodStores() {
		list := guarded(c.list)
		if !impl.StoreOk(list) {
			t.Errorf("StoreOk of %s is false", c.name)
		}
		checkGuarded(t, "StoreOk of "+c.name, list, c.list)
	}
	for _, c := range noStores() {
		list := guarded(c.list)
		if impl.StoreOk(list) {
			t.Errorf("StoreOk of %s is true", c.name)
		}
		checkGuarded(t, "StoreOk of "+c.name, list, c.list)
	}
}

func checkPut(t *testing.T, name string, list []impl.Series, s impl.Sample, want []impl.Series, code int) {
	name = fmt.Sprintf("PutSample of %+v into %s", s, name)
	got := -1
	checkStore(t, name, list, func(argument []impl.Series) []impl.Series {
		store, code := impl.PutSample(argument, s)
		got = code
		return store
	}, want)
	if got != code {
		t.Errorf("%s has the code %d, want %d", name, got, code)
	}
}

func TestPutSampleIntoASeries(t *testing.T) {
	one := []impl.Series{seriesAt("p1", "cpu", impl.Point{At: 10, Value: 100})}
	two := []impl.Series{seriesAt("p1", "cpu", impl.Point{At: 10, Value: 100}, impl.Point{At: 20, Value: 200})}
	cases := []struct {
		at, size, code int
	}{
		{0, 5, impl.PutOld}, {9, 5, impl.PutOld}, {10, 5, impl.PutOld}, {15, 5, impl.PutOld}, {19, 5, impl.PutOld}, {20, 200, impl.PutOld}, {20, 5, impl.PutOld},
		{21, 5, impl.PutDone}, {21, 0, impl.PutDone}, {21, limit, impl.PutDone}, {30, 200, impl.PutDone}, {lastTick - 1, 5, impl.PutDone}, {lastTick, 5, impl.PutDone},
		{-1, 5, impl.PutBad}, {lastTick + 1, 5, impl.PutBad}, {21, -1, impl.PutBad}, {21, limit + 1, impl.PutBad}, {20, -1, impl.PutBad}, {0, limit + 1, impl.PutBad},
	}
	for _, c := range cases {
		want := two
		if c.code == impl.PutDone {
			want = []impl.Series{seriesAt("p1", "cpu", append(slices.Clone(two[0].Points), impl.Point{At: c.at, Value: c.size})...)}
		}
		checkPut(t, "two points", two, sampleAt("p1", "cpu", c.size, c.at), want, c.code)
	}
	checkPut(t, "one point", one, sampleAt("p1", "cpu", 200, 20), two, impl.PutDone)
	checkPut(t, "one point", one, sampleAt("p1", "cpu", 9, 10), one, impl.PutOld)
	checkPut(t, "one point", one, sampleAt("p1", "cpu", 9, 9), one, impl.PutOld)
	start := []impl.Series{seriesAt("p1", "cpu", impl.Point{})}
	checkPut(t, "a zero point", start, sampleAt("p1", "cpu", 1, 0), start, impl.PutOld)
	checkPut(t, "a zero point", start, sampleAt("p1", "cpu", 0, 1), []impl.Series{seriesAt("p1", "cpu", impl.Point{}, impl.Point{At: 1})}, impl.PutDone)
	end := []impl.Series{seriesAt("p1", "cpu", impl.Point{At: lastTick})}
	checkPut(t, "a point at MaxTick", end, sampleAt("p1", "cpu", 1, lastTick), end, impl.PutOld)
	checkPut(t, "a point at MaxTick", end, sampleAt("p1", "cpu", 1, lastTick+1), end, impl.PutBad)
}

func TestPutSampleIntoSeriesOfAllLengths(t *testing.T) {
	for n := 1; n <= longSeries; n++ {
		points := pointsUpTo(n, 500)
		list := []impl.Series{seriesAt("a", "a", impl.Point{At: 900}), seriesAt("p1", "cpu", points...), seriesAt("p1", "ram", pointsUpTo(longSeries, 700)...)}
		more := append(slices.Clone(points), impl.Point{At: 501, Value: 7})
		want := slices.Clone(list)
		want[1].Points = more[max(len(more)-longSeries, 0):]
		name := strconv.Itoa(n) + " points"
		checkPut(t, name, list, sampleAt("p1", "cpu", 7, 501), want, impl.PutDone)
		for _, p := range points {
			checkPut(t, name, list, sampleAt("p1", "cpu", 7, p.At), list, impl.PutOld)
			checkPut(t, name, list, sampleAt("p1", "cpu", 7, p.At-1), list, impl.PutOld)
		}
	}
}

func TestPutSampleOfANewSeries(t *testing.T) {
	for n := range manySeries + 1 {
		for _, name := range []string{"a", "p", "p00", "p000", "p04", "p11", "p12", "q", "zzzzzzzzzzzz"} {
			for _, metric := range []string{"a", "m", "m00", "m01", "m2"} {
				list := storeOf(n)
				want := append(storeOf(n), seriesAt(name, metric, impl.Point{At: 3, Value: 4}))
				slices.SortFunc(want, func(a impl.Series, b impl.Series) int {
					return cmp.Or(cmp.Compare(a.Pod, b.Pod), cmp.Compare(a.Metric, b.Metric))
				})
				code := impl.PutDone
				if n == manySeries {
					want, code = list, impl.PutFull
				}
				checkPut(t, fmt.Sprintf("%d series", n), list, sampleAt(name, metric, 4, 3), want, code)
			}
		}
	}
}

func TestPutSampleAtTheEdgesOfStores(t *testing.T) {
	for _, s := range goodSamples() {
		checkPut(t, "no series", nil, s, []impl.Series{seriesAt(s.Pod, s.Metric, impl.Point{At: s.At, Value: s.Value})}, impl.PutDone)
	}
	full := storeOf(manySeries)
	for i, s := range full {
		last := s.Points[len(s.Points)-1].At
		want := slices.Clone(full)
		more := append(slices.Clone(s.Points), impl.Point{At: last + 1, Value: 8})
		want[i].Points = more[max(len(more)-longSeries, 0):]
		checkPut(t, "MaxSeries series", full, sampleAt(s.Pod, s.Metric, 8, last+1), want, impl.PutDone)
		checkPut(t, "MaxSeries series", full, sampleAt(s.Pod, s.Metric, 8, last), full, impl.PutOld)
		checkPut(t, "MaxSeries series", full, sampleAt(s.Pod, s.Metric, 8, 0), full, impl.PutOld)
		checkPut(t, "MaxSeries series", full, sampleAt(s.Pod, s.Metric, -1, last), full, impl.PutBad)
	}
	// The pod and the metric of a series are not those of another one that has them exchanged or joined.
	one := []impl.Series{seriesAt("ab", "c", impl.Point{At: 5})}
	checkPut(t, "one series", one, sampleAt("a", "bc", 1, 1), []impl.Series{seriesAt("a", "bc", impl.Point{At: 1, Value: 1}), one[0]}, impl.PutDone)
	checkPut(t, "one series", one, sampleAt("c", "ab", 1, 1), []impl.Series{one[0], seriesAt("c", "ab", impl.Point{At: 1, Value: 1})}, impl.PutDone)
}

func TestPutSampleRefuses(t *testing.T) {
	stores := []namedStore{{"no series", nil}, {"one series", []impl.Series{seriesAt("p1", "cpu", impl.Point{At: 5})}}, {"MaxSeries series", storeOf(manySeries)}}
	for _, s := range badSamples() {
		for _, c := range stores {
			checkPut(t, c.name, c.list, s, c.list, impl.PutBad)
		}
	}
	for _, c := range noStores() {
		for _, s := range []impl.Sample{{}, sampleAt("p1", "cpu", 1, 5000), sampleAt("p1", "cpu", 1, 0), sampleAt("zz", "zz", 1, 1)} {
			checkPut(t, c.name, c.list, s, c.list, impl.PutBad)
		}
	}
}

// history has all the samples that arrived in time, by pod and metric.
type history map[[2]string][]impl.Point

func (h history) put(s impl.Sample) int {
	key := [2]string{s.Pod, s.Metric}
	points, found := h[key]
	switch {
	case !impl.SampleOk(s):
		return impl.PutBad
	case found && points[len(points)-1].At >= s.At:
		return impl.PutOld
	case !found && len(h) == manySeries:
		return impl.PutFull
	}
	h[key] = append(points, impl.Point{At: s.At, Value: s.Value})
	return impl.PutDone
}

func (h history) store() []impl.Series {
	var list []impl.Series
	for key, points := range h {
		list = append(list, seriesAt(key[0], key[1], points[max(len(points)-longSeries, 0):]...))
	}
	slices.SortFunc(list, func(a impl.Series, b impl.Series) int {
		return slices.Compare([]string{a.Pod, a.Metric}, []string{b.Pod, b.Metric})
	})
	return list
}

// arrivals are n samples of a number of pods, most of them in time and some
// late, repeated or invalid.
func arrivals(n int, pods int, seed int) []impl.Sample {
	var list []impl.Sample
	state := seed
	next := func(most int) int {
		state = (state*1103515245 + 12345) % (1 << 31)
		return state / 65536 % most
	}
	for i := range n {
		s := sampleAt("p"+strconv.Itoa(next(pods)), "m"+strconv.Itoa(next(2)), next(50), i/3+next(5))
		switch next(20) {
		case 0:
			s.Value = -1
		case 1:
			s.At = lastTick + 1
		case 2:
			s.Metric = ""
		}
		list = append(list, s)
	}
	return list
}

func TestSeriesKeepTheLastSamplesThatArrivedInTime(t *testing.T) {
	for _, pods := range []int{1, 2, 5, 12, 13, 30} {
		for seed := range 10 {
			h := history{}
			var list []impl.Series
			total := make([]int, 4)
			samples := arrivals(longList, pods, seed)
			for _, s := range samples {
				store, code := impl.PutSample(list, s)
				want := h.put(s)
				if code != want || !sameSeries(store, h.store()) || !impl.StoreOk(store) {
					t.Fatalf("PutSample of %+v into %+v = %+v, %d, want %+v, %d", s, list, store, code, h.store(), want)
				}
				total[code]++
				list = store
			}
			if total[impl.PutDone] == 0 || total[impl.PutOld] == 0 || total[impl.PutBad] == 0 || (total[impl.PutFull] > 0) != (pods > 12) {
				t.Errorf("the codes of %d pods are %v", pods, total)
			}
			all, counts := impl.PutAll(nil, samples)
			if !sameSeries(all, list) || !slices.Equal(counts, total) {
				t.Errorf("PutAll of %d pods = %+v, %v, want %+v, %v", pods, all, counts, list, total)
			}
		}
	}
}

func TestSeriesOfManyPuts(t *testing.T) {
	var list []impl.Series
	var put []impl.Point
	for i := range 10 * longSeries {
		p := impl.Point{At: i * i, Value: 7 * i}
		list, _ = impl.PutSample(list, sampleAt("p1", "cpu", p.Value, p.At))
		put = append(put, p)
		want := put[max(len(put)-longSeries, 0):]
		got, ok := impl.SeriesOf(list, "p1", "cpu")
		last, ok2 := impl.LatestOf(list, "p1", "cpu")
		if !ok || !ok2 || !slices.Equal(got, want) || last != p || impl.CountPoints(list) != len(want) {
			t.Fatalf("after %d samples the points are %v and the last one is %v, want %v", len(put), got, last, want)
		}
	}
}

func TestPutChangesNoOtherSeries(t *testing.T) {
	list := storeOf(manySeries - 1)
	samples := append(arrivals(100, 5, 1), sampleAt("p00", "m0", 1, 5000), sampleAt("p05", "m1", 1, 5000), sampleAt("p05", "m1", 1, 1), sampleAt("p11", "m0", 1, 5000), sampleAt("zz", "m0", 1, 1), sampleAt("p050", "m0", 1, 1))
	for _, s := range samples {
		store, code := impl.PutSample(list, s)
		for _, other := range list {
			if other.Pod == s.Pod && other.Metric == s.Metric && code == impl.PutDone {
				continue
			}
			if got, ok := impl.SeriesOf(store, other.Pod, other.Metric); !ok || !slices.Equal(got, other.Points) {
				t.Errorf("PutSample of %+v changed the series of %s and %s to %v", s, other.Pod, other.Metric, got)
			}
		}
	}
}

func checkPutAll(t *testing.T, name string, list []impl.Series, samples []impl.Sample, want []impl.Series, counts []int) {
	name = "PutAll of " + name
	var got []int
	before := slices.Clone(samples)
	checkStore(t, name, list, func(argument []impl.Series) []impl.Series {
		store, counts := impl.PutAll(argument, samples)
		got = counts
		return store
	}, want)
	if !slices.Equal(got, counts) {
		t.Errorf("%s has the counts %v, want %v", name, got, counts)
	}
	if !slices.Equal(samples, before) {
		t.Errorf("%s changed its samples", name)
	}
}

func TestPutAll(t *testing.T) {
	old := []impl.Series{seriesAt("p1", "cpu", impl.Point{At: 10, Value: 100})}
	both := []impl.Series{seriesAt("p0", "ram", impl.Point{At: 1, Value: 3}), seriesAt("p1", "cpu", impl.Point{At: 10, Value: 100}, impl.Point{At: 11, Value: 5})}
	samples := []impl.Sample{sampleAt("p1", "cpu", 1, 10), sampleAt("p0", "ram", 3, 1), {}, sampleAt("p1", "cpu", 5, 11), sampleAt("p1", "cpu", 6, 11), sampleAt("p0", "ram", 4, 0)}
	full := storeOf(manySeries)
	one := sampleAt("a", "b", 5, 7)
	single := []impl.Series{seriesAt("a", "b", impl.Point{At: 7, Value: 5})}
	checkPutAll(t, "no samples", old, nil, old, []int{0, 0, 0, 0})
	checkPutAll(t, "nothing", nil, nil, nil, []int{0, 0, 0, 0})
	checkPutAll(t, "an invalid sample", nil, []impl.Sample{{}}, nil, []int{0, 0, 0, 1})
	checkPutAll(t, "several samples", old, samples, both, []int{2, 3, 0, 1})
	checkPutAll(t, "samples out of order", nil, []impl.Sample{sampleAt("a", "b", 5, 7), sampleAt("a", "b", 4, 6)}, single, []int{1, 1, 0, 0})
	checkPutAll(t, "new series for a full store", full, []impl.Sample{one, one, sampleAt("p00", "m0", 1, 0), {}}, full, []int{0, 1, 2, 1})
	checkPutAll(t, "one series more than there is room for", full[1:], []impl.Sample{one, sampleAt("a", "c", 1, 1), one}, append(single, full[1:]...), []int{1, 1, 1, 0})
	checkPutAll(t, "MaxList samples", nil, slices.Repeat([]impl.Sample{one}, longList), single, []int{1, longList - 1, 0, 0})
	checkPutAll(t, "MaxList + 1 samples", old, slices.Repeat([]impl.Sample{one}, longList+1), old, nil)
	checkPutAll(t, "MaxList + 1 samples into nothing", nil, slices.Repeat([]impl.Sample{one}, longList+1), nil, nil)
	checkPutAll(t, "MaxList + 1 invalid samples", old, make([]impl.Sample, longList+1), old, nil)
	checkPutAll(t, "many samples", old, make([]impl.Sample, 5000), old, nil)
	for _, c := range noStores() {
		checkPutAll(t, "no samples into "+c.name, c.list, nil, c.list, []int{0, 0, 0, 0})
		checkPutAll(t, "samples into "+c.name, c.list, samples, c.list, []int{0, 0, 0, len(samples)})
		checkPutAll(t, "MaxList samples into "+c.name, c.list, make([]impl.Sample, longList), c.list, []int{0, 0, 0, longList})
		checkPutAll(t, "MaxList + 1 samples into "+c.name, c.list, make([]impl.Sample, longList+1), c.list, nil)
	}
}

// checkQueries asks all three functions for a series that is in the list.
func checkQueries(t *testing.T, list []impl.Series, pod string, metric string, want []impl.Point) {
	argument := guarded(list)
	points, ok := impl.SeriesOf(argument, pod, metric)
	last, ok2 := impl.LatestOf(argument, pod, metric)
	if !ok || !slices.Equal(points, want) {
		t.Errorf("SeriesOf %s and %s = %v, %v, want %v", pod, metric, points, ok, want)
	}
	if !ok2 || last != want[len(want)-1] {
		t.Errorf("LatestOf %s and %s = %v, %v, want the last of %v", pod, metric, last, ok2, want)
	}
	newest := want[len(want)-1]
	if mean, ok := impl.AverageOf(argument, pod, metric, newest.At-1, newest.At); !ok || mean != newest.Value {
		t.Errorf("AverageOf %s and %s at the last point = %d, %v, want %d", pod, metric, mean, ok, newest.Value)
	}
	checkGuarded(t, "a query", argument, list)
	overwritePoints(points)
	checkGuarded(t, "the result of SeriesOf", argument, list)
}

func checkNoSeries(t *testing.T, name string, list []impl.Series, pod string, metric string) {
	argument := guarded(list)
	if points, ok := impl.SeriesOf(argument, pod, metric); points != nil || ok {
		t.Errorf("SeriesOf %q and %q in %s = %v, %v", pod, metric, name, points, ok)
	}
	if last, ok := impl.LatestOf(argument, pod, metric); last != (impl.Point{}) || ok {
		t.Errorf("LatestOf %q and %q in %s = %v, %v", pod, metric, name, last, ok)
	}
	if mean, ok := impl.AverageOf(argument, pod, metric, math.MinInt, math.MaxInt); mean != 0 || ok {
		t.Errorf("AverageOf %q and %q in %s = %d, %v", pod, metric, name, mean, ok)
	}
	checkGuarded(t, "a query in "+name, argument, list)
}

func TestQueries(t *testing.T) {
	for _, c := range goodStores() {
		for _, s := range c.list {
			checkQueries(t, c.list, s.Pod, s.Metric, s.Points)
		}
		for _, name := range []string{"none", "mark", "", "p0", "p000", "P00", "m0", "é"} {
			checkNoSeries(t, c.name, c.list, name, "m0")
			checkNoSeries(t, c.name, c.list, "p00", name+"x")
			checkNoSeries(t, c.name, c.list, name, "")
		}
	}
	one := []impl.Series{seriesAt("ab", "c", impl.Point{At: 5})}
	checkNoSeries(t, "one series", one, "a", "bc")
	checkNoSeries(t, "one series", one, "c", "ab")
	checkNoSeries(t, "one series", one, "abc", "")
}

func TestQueriesOfNoStores(t *testing.T) {
	for _, c := range noStores() {
		checkNoSeries(t, c.name, c.list, "p1", "cpu")
		for _, s := range c.list {
			checkNoSeries(t, c.name, c.list, s.Pod, s.Metric)
		}
	}
}

func TestAverageOf(t *testing.T) {
	list := []impl.Series{
		seriesAt("p0", "cpu", impl.Point{At: 10, Value: 7}),
		seriesAt("p1", "cpu", impl.Point{At: 10, Value: 100}, impl.Point{At: 20, Value: 200}),
		seriesAt("p2", "cpu", impl.Point{At: 0, Value: 1}, impl.Point{At: 1, Value: 2}, impl.Point{At: lastTick, Value: 2}),
		seriesAt("p3", "cpu", impl.Point{At: 1, Value: limit - 1}, impl.Point{At: 2, Value: 1}, impl.Point{At: 3, Value: 0}, impl.Point{At: 4, Value: limit}),
		seriesAt("p4", "cpu", impl.Point{At: 1, Value: 0}, impl.Point{At: 2, Value: 0}),
	}
	cases := []struct {
		pod            string
		from, to, mean int
		ok             bool
	}{
		{"p1", 0, 20, 150, true}, {"p1", 10, 20, 200, true}, {"p1", 9, 20, 150, true}, {"p1", 9, 19, 100, true}, {"p1", 0, 10, 100, true}, {"p1", 0, 9, 0, false},
		{"p1", 20, 30, 0, false}, {"p1", 19, 30, 200, true}, {"p1", 10, 10, 0, false}, {"p1", 9, 10, 100, true}, {"p1", 11, 19, 0, false}, {"p1", 20, 10, 0, false}, {"p1", 20, 0, 0, false},
		{"p1", -5, 1000, 150, true}, {"p1", math.MinInt, math.MaxInt, 150, true}, {"p1", math.MaxInt, math.MinInt, 0, false}, {"p1", math.MinInt, 10, 100, true}, {"p1", 10, math.MaxInt, 200, true},
		{"p2", -1, 1, 1, true}, {"p2", -1, 0, 1, true}, {"p2", 0, 1, 2, true}, {"p2", -2, -1, 0, false}, {"p2", -1, lastTick, 1, true}, {"p2", 1, lastTick, 2, true},
		{"p2", lastTick - 1, lastTick, 2, true}, {"p2", lastTick, lastTick + 1, 0, false}, {"p2", lastTick - 1, lastTick + 1, 2, true}, {"p2", 1, lastTick - 1, 0, false},
		{"p3", 0, 2, limit / 2, true}, {"p3", 0, 3, 333333333, true}, {"p3", 0, 4, 0, false}, {"p3", 1, 4, 0, false}, {"p3", 2, 4, limit / 2, true}, {"p3", 3, 4, limit, true},
		{"p4", 0, 2, 0, true}, {"p4", 2, 3, 0, false}, {"p0", 9, 10, 7, true}, {"p9", 0, 100, 0, false}, {"", 0, 100, 0, false},
	}
	for _, c := range cases {
		if mean, ok := impl.AverageOf(list, c.pod, "cpu", c.from, c.to); mean != c.mean || ok != c.ok {
			t.Errorf("AverageOf %q from %d to %d = %d, %v, want %d, %v", c.pod, c.from, c.to, mean, ok, c.mean, c.ok)
		}
	}
}

func TestAverageOfIsMeanOf(t *testing.T) {
	for n := 1; n <= longSeries; n++ {
		points := pointsUpTo(n, 120)
		list := []impl.Series{seriesAt("o", "cpu", impl.Point{At: 50, Value: 3}), seriesAt("p1", "cpu", points...), seriesAt("p1", "ram", impl.Point{At: 60, Value: 4})}
		for from := -2; from < 125; from += 3 {
			for to := -2; to < 125; to++ {
				var sizes []int
				for _, p := range points {
					if p.At > from && p.At <= to {
						sizes = append(sizes, p.Value)
					}
				}
				mean, ok := impl.MeanOf(sizes)
				if got, ok2 := impl.AverageOf(list, "p1", "cpu", from, to); got != mean || ok2 != ok {
					t.Errorf("AverageOf %d points from %d to %d = %d, %v, want %d, %v", n, from, to, got, ok2, mean, ok)
				}
			}
		}
	}
}

func checkForget(t *testing.T, name string, list []impl.Series, at int, want []impl.Series, ok bool) {
	name = fmt.Sprintf("ForgetBefore %d of %s", at, name)
	got := !ok
	checkStore(t, name, list, func(argument []impl.Series) []impl.Series {
		store, ok := impl.ForgetBefore(argument, at)
		got = ok
		return store
	}, want)
	if got != ok {
		t.Errorf("%s is %v", name, got)
	}
}

func withoutPointsBefore(list []impl.Series, at int) []impl.Series {
	var rest []impl.Series
	for _, s := range list {
		s.Points = slices.DeleteFunc(slices.Clone(s.Points), func(p impl.Point) bool { return p.At < at })
		if len(s.Points) > 0 {
			rest = append(rest, s)
		}
	}
	return rest
}

func TestForgetBefore(t *testing.T) {
	list := []impl.Series{
		seriesAt("a", "a", impl.Point{At: 0, Value: 1}),
		seriesAt("b", "a", impl.Point{At: 10, Value: 2}, impl.Point{At: 20, Value: 3}, impl.Point{At: lastTick, Value: 4}),
		seriesAt("b", "b", impl.Point{At: 10, Value: 5}, impl.Point{At: 11, Value: 6}),
		seriesAt("c", "a", impl.Point{At: lastTick, Value: 7}),
	}
	b := list[1].Points
	checkForget(t, "four series", list, 0, list, true)
	checkForget(t, "four series", list, 1, list[1:], true)
	checkForget(t, "four series", list, 10, list[1:], true)
	checkForget(t, "four series", list, 11, []impl.Series{seriesAt("b", "a", b[1:]...), seriesAt("b", "b", list[2].Points[1]), list[3]}, true)
	checkForget(t, "four series", list, 12, []impl.Series{seriesAt("b", "a", b[1:]...), list[3]}, true)
	checkForget(t, "four series", list, 21, []impl.Series{seriesAt("b", "a", b[2]), list[3]}, true)
	checkForget(t, "four series", list, lastTick, []impl.Series{seriesAt("b", "a", b[2]), list[3]}, true)
	checkForget(t, "four series", list, lastTick+1, nil, true)
	checkForget(t, "nothing", nil, 5, nil, true)
	for _, c := range goodStores() {
		ats := []int{math.MinInt, -1, 0, 1, lastTick - 1, lastTick, lastTick + 1, math.MaxInt}
		for at := range 60 {
			ats = append(ats, 5*at)
		}
		for _, at := range ats {
			checkForget(t, c.name, c.list, at, withoutPointsBefore(c.list, at), true)
		}
	}
	for _, c := range noStores() {
		for _, at := range []int{math.MinInt, 0, 1, 2, lastTick, math.MaxInt} {
			checkForget(t, c.name, c.list, at, c.list, false)
		}
	}
}

func checkKeep(t *testing.T, name string, list []impl.Series, pods []string, want []impl.Series, ok bool) {
	name = fmt.Sprintf("KeepPods of %s and %d pods", name, len(pods))
	got := !ok
	before := slices.Clone(pods)
	checkStore(t, name, list, func(argument []impl.Series) []impl.Series {
		store, ok := impl.KeepPods(argument, pods)
		got = ok
		return store
	}, want)
	if got != ok {
		t.Errorf("%s is %v", name, got)
	}
	if !slices.Equal(pods, before) {
		t.Errorf("%s changed its pods", name)
	}
}

func TestKeepPods(t *testing.T) {
	list := []impl.Series{
		seriesAt("a", "x", impl.Point{At: 1}), seriesAt("a", "y", impl.Point{At: 2}), seriesAt("ab", "x", impl.Point{At: 3}, impl.Point{At: 4}), seriesAt("b", "a", impl.Point{At: 5}),
	}
	cases := []struct {
		pods []string
		want []impl.Series
	}{
		{nil, nil}, {[]string{}, nil}, {[]string{"a"}, list[:2]}, {[]string{"ab"}, list[2:3]}, {[]string{"b"}, list[3:]}, {[]string{"b", "a"}, []impl.Series{list[0], list[1], list[3]}},
		{[]string{"b", "ab", "a"}, list}, {[]string{"a", "a", "a"}, list[:2]}, {[]string{"x"}, nil}, {[]string{"A", "", "abc", "é", "\xff"}, nil}, {[]string{"", "ab", "a "}, list[2:3]},
	}
	for _, c := range cases {
		checkKeep(t, "four series", list, c.pods, c.want, true)
		checkKeep(t, "nothing", nil, c.pods, nil, true)
	}
	most := append(slices.Repeat([]string{"none"}, longList-1), "b")
	checkKeep(t, "four series", list, most, list[3:], true)
	checkKeep(t, "four series", list, append(most, "a"), list, false)
	checkKeep(t, "nothing", nil, append(most, "a"), nil, false)
	checkKeep(t, "four series", list, make([]string, 5000), list, false)
	full := storeOf(manySeries)
	checkKeep(t, "MaxSeries series", full, []string{"p00", "p11"}, append(full[:2:2], full[22:]...), true)
	for _, c := range noStores() {
		var all []string
		for _, s := range c.list {
			all = append(all, s.Pod)
		}
		checkKeep(t, c.name, c.list, all, c.list, false)
		checkKeep(t, c.name, c.list, nil, c.list, false)
		checkKeep(t, c.name, c.list, append(most, "a"), c.list, false)
	}
}

func TestCountPoints(t *testing.T) {
	whole := storeOf(manySeries)
	for i := range whole {
		whole[i].Points = pointsUpTo(longSeries, 500)
	}
	cases := []struct {
		list []impl.Series
		want int
	}{
		{nil, 0}, {[]impl.Series{}, 0}, {storeOf(1), 1}, {storeOf(2), 3}, {storeOf(3), 6}, {storeOf(13), 79}, {storeOf(manySeries), 156}, {whole, manySeries * longSeries},
	}
	for _, c := range cases {
		list := guarded(c.list)
		if got := impl.CountPoints(list); got != c.want {
			t.Errorf("CountPoints of %d series = %d, want %d", len(c.list), got, c.want)
		}
		checkGuarded(t, "CountPoints", list, c.list)
	}
	for _, c := range noStores() {
		list := guarded(c.list)
		if got := impl.CountPoints(list); got != -1 {
			t.Errorf("CountPoints of %s = %d", c.name, got)
		}
		checkGuarded(t, "CountPoints of "+c.name, list, c.list)
	}
}
