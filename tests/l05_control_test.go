package tests

import (
	"fmt"
	"math"
	"math/big"
	"regexp"
	"slices"
	"strings"
	"testing"

	"loop.example/g00808/impl"
)

const (
	manyCount  = 1000
	longTarget = 1000000
	longTol    = 1000
)

func TestLimitOfCounts(t *testing.T) {
	if impl.MaxCount != manyCount {
		t.Errorf("limit %d", impl.MaxCount)
	}
}

func goodTargets() []int { return []int{1, 2, 999, 1000, 1001, 123456, longTarget - 1, longTarget} }

func notTargets() []int {
	return []int{math.MinInt, -longTarget, -1, 0, longTarget + 1, limit, 1<<32 + 1, math.MaxInt}
}

func goodTols() []int { return []int{0, 1, 99, 100, 333, longTol - 1, longTol} }

func notTols() []int { return []int{math.MinInt, -100, -1, longTol + 1, limit, 1<<32 + 1, math.MaxInt} }

// goodGoals has every limit beside ordinary fields.
func goodGoals() []impl.Goal {
	var list []impl.Goal
	for _, name := range goodNames() {
		list = append(list, impl.Goal{Metric: name, Target: 5, Tol: 7})
	}
	for _, target := range goodTargets() {
		for _, tol := range goodTols() {
			list = append(list, impl.Goal{Metric: "cpu", Target: target, Tol: tol})
		}
	}
	return list
}

// badGoals each have one field that is not valid, but for the first two.
func badGoals() []impl.Goal {
	list := []impl.Goal{{}, {Tol: 100}, {Metric: "cpu"}, {Target: 1000, Tol: 100}}
	for _, name := range badNames() {
		list = append(list, impl.Goal{Metric: name, Target: 1000, Tol: 100})
	}
	for _, target := range notTargets() {
		list = append(list, impl.Goal{Metric: "cpu", Target: target, Tol: 100}, impl.Goal{Metric: "cpu", Target: target})
	}
	for _, tol := range notTols() {
		list = append(list, impl.Goal{Metric: "cpu", Target: 1000, Tol: tol}, impl.Goal{Metric: "cpu", Target: longTarget, Tol: tol})
	}
	return list
}

func TestGoalOk(t *testing.T) {
	for _, g := range goodGoals() {
		if !impl.GoalOk(g) {
			t.Errorf("GoalOk(%+v) is false", g)
		}
	}
	for _, g := range badGoals() {
		if impl.GoalOk(g) {
			t.Errorf("GoalOk(%+v) is true", g)
		}
	}
}

// cpu is the goal of the document's examples with another target and tolerance.
func cpu(target int, tol int) impl.Goal { return impl.Goal{Metric: "cpu", Target: target, Tol: tol} }

func TestRatioSign(t *testing.T) {
	cases := []struct{ sum, n, target, want int }{
		{3000, 3, 1000, 0}, {2999, 3, 1000, -1}, {3001, 3, 1000, 1}, {6000, 3, 1000, 1}, {0, 3, 1000, -1},
		{0, 1, 1, -1}, {1, 1, 1, 0}, {2, 1, 1, 1}, {999, 1000, 1, -1}, {1000, 1000, 1, 0}, {1001, 1000, 1, 1},
		{limit, 1000, longTarget, 0}, {limit - 1, 1000, longTarget, -1}, {0, 1000, longTarget, -1}, {limit, 999, longTarget, 1}, {limit, 1000, longTarget - 1, 1},
		{limit, 1, 1, 1}, {limit, 1, longTarget, 1}, {longTarget, 1, longTarget, 0}, {longTarget - 1, 1, longTarget, -1}, {longTarget + 1, 1, longTarget, 1},
		// The product of these limits and one pod more exceeds MaxValue.
		{limit, 1001, longTarget, 2}, {limit, 1000, longTarget + 1, 2}, {0, 1001, 1, 2},
	}
	for _, c := range cases {
		if got := impl.RatioSign(c.sum, c.n, c.target); got != c.want {
			t.Errorf("RatioSign(%d, %d, %d) = %d, want %d", c.sum, c.n, c.target, got, c.want)
		}
	}
}

func goodPodCounts() []int { return []int{1, 2, 3, 7, 12, 36, 500, manyCount - 1, manyCount} }

func notPodCounts() []int {
	return []int{math.MinInt, -manyCount, -1, 0, manyCount + 1, limit, 1<<32 + 1, math.MaxInt}
}

func TestRatioSignIsExact(t *testing.T) {
	for _, n := range goodPodCounts() {
		for _, target := range goodTargets() {
			meant := product(n, target)
			for _, sum := range append(sizes(), n*target-1, n*target, n*target+1) {
				want := 2
				if 0 <= sum && sum <= limit {
					want = big.NewInt(int64(sum)).Cmp(meant)
				}
				if got := impl.RatioSign(sum, n, target); got != want {
					t.Errorf("RatioSign(%d, %d, %d) = %d, want %d", sum, n, target, got, want)
				}
			}
		}
	}
}

// noLoads calls with arguments of which at least one is beyond its limits.
func noLoads(call func(sum int, n int, target int)) {
	for _, sum := range append(notSizes(), sizes()...) {
		for _, n := range append(notPodCounts(), goodPodCounts()...) {
			for _, target := range append(notTargets(), goodTargets()...) {
				if slices.Contains(notSizes(), sum) || slices.Contains(notPodCounts(), n) || slices.Contains(notTargets(), target) {
					call(sum, n, target)
				}
			}
		}
	}
}

func TestRatioSignRefuses(t *testing.T) {
	noLoads(func(sum int, n int, target int) {
		if got := impl.RatioSign(sum, n, target); got != 2 {
			t.Errorf("RatioSign(%d, %d, %d) = %d", sum, n, target, got)
		}
	})
}

func TestInBand(t *testing.T) {
	cases := []struct {
		sum, n int
		goal   impl.Goal
		want   bool
	}{
		{3300, 3, cpu(1000, 100), true}, {3301, 3, cpu(1000, 100), false}, {2700, 3, cpu(1000, 100), true}, {2699, 3, cpu(1000, 100), false}, {3000, 3, cpu(1000, 100), true},
		{3000, 3, cpu(1000, 0), true}, {2999, 3, cpu(1000, 0), false}, {3001, 3, cpu(1000, 0), false}, {3003, 3, cpu(1000, 1), true}, {3004, 3, cpu(1000, 1), false}, {2997, 3, cpu(1000, 1), true}, {2996, 3, cpu(1000, 1), false},
		{6000, 3, cpu(1000, 1000), true}, {6001, 3, cpu(1000, 1000), false}, {0, 3, cpu(1000, 1000), true}, {0, 3, cpu(1000, 999), false}, {3, 3, cpu(1000, 999), true}, {2, 3, cpu(1000, 999), false},
		{1, 1, cpu(1, 0), true}, {0, 1, cpu(1, 999), false}, {0, 1, cpu(1, 1000), true}, {2, 1, cpu(1, 999), false}, {2, 1, cpu(1, 1000), true}, {3, 1, cpu(1, 1000), false},
		{limit, 1000, cpu(longTarget, 0), true}, {limit - 1, 1000, cpu(longTarget, 0), false}, {limit - 1, 1000, cpu(longTarget, 1), true}, {limit - limit/1000, 1000, cpu(longTarget, 1), true}, {limit - limit/1000 - 1, 1000, cpu(longTarget, 1), false},
		{limit, 1000, cpu(longTarget, 1000), true}, {0, 1000, cpu(longTarget, 1000), true}, {0, 1000, cpu(longTarget, 999), false},
		{limit, 1000, cpu(longTarget/2, 999), false}, {limit, 1000, cpu(longTarget/2, 1000), true}, {limit, 1, cpu(1, 1000), false},
		{limit, 1001, cpu(longTarget, 1000), false}, {limit, 1000, cpu(longTarget+1, 1000), false}, {limit + 1, 1000, cpu(longTarget, 1000), false}, {1001, 1001, cpu(1, 1000), false},
		{0, 0, cpu(1000, 1000), false}, {0, 0, cpu(1000, 0), false}, {-1, 3, cpu(1000, 1000), false},
		{3000, 3, impl.Goal{Metric: "CPU", Target: 1000, Tol: 1000}, false}, {3000, 3, impl.Goal{Target: 1000, Tol: 1000}, false}, {3000, 3, cpu(1000, 1001), false}, {3000, 3, cpu(1000, -1), false},
	}
	for _, c := range cases {
		if got := impl.InBand(c.sum, c.n, c.goal); got != c.want {
			t.Errorf("InBand(%d, %d, %+v) = %v", c.sum, c.n, c.goal, got)
		}
	}
}

// bandEdges are the sums around both edges of a band and around the sum meant.
func bandEdges(n int, g impl.Goal) []int {
	meant := n * g.Target
	low := meant * (1000 - g.Tol) / 1000
	high := meant * (1000 + g.Tol) / 1000
	var list []int
	for _, sum := range []int{low, meant, high} {
		list = append(list, sum-1, sum, sum+1)
	}
	return list
}

func TestInBandIsExact(t *testing.T) {
	both := map[bool]int{}
	for _, n := range goodPodCounts() {
		for _, target := range goodTargets() {
			for _, tol := range goodTols() {
				for _, sum := range append(sizes(), bandEdges(n, cpu(target, tol))...) {
					gap := new(big.Int).Sub(big.NewInt(int64(sum)), product(n, target))
					gap.Mul(gap.Abs(gap), big.NewInt(1000))
					room := new(big.Int).Mul(product(n, target), big.NewInt(int64(tol)))
					want := 0 <= sum && sum <= limit && gap.Cmp(room) <= 0
					if got := impl.InBand(sum, n, cpu(target, tol)); got != want {
						t.Errorf("InBand(%d, %d, %d by %d) = %v", sum, n, target, tol, got)
					}
					both[want]++
				}
			}
		}
	}
	if both[true] == 0 || both[false] == 0 {
		t.Errorf("sums inside and outside: %v", both)
	}
}

func TestInBandRefuses(t *testing.T) {
	noLoads(func(sum int, n int, target int) {
		for _, tol := range goodTols() {
			if impl.InBand(sum, n, cpu(target, tol)) {
				t.Errorf("InBand(%d, %d, %d by %d)", sum, n, target, tol)
			}
		}
	})
	for _, g := range badGoals() {
		for _, n := range goodPodCounts() {
			for _, sum := range append(sizes(), 1000*n, g.Target*n) {
				if impl.InBand(sum, n, g) {
					t.Errorf("InBand(%d, %d, %+v)", sum, n, g)
				}
			}
		}
	}
}

// badTallies each break one condition of a usable tally, but for the zero value.
func badTallies() []impl.Tally {
	list := []impl.Tally{{}, {Unready: 3, Missing: 2}, {Unready: 3, Missing: 2, Sum: 3000}, {Missing: 12}, {Sum: 3000}, {Sum: limit}}
	for _, n := range []int{math.MinInt, -manyPods, -1, manyPods + 1, manyCount, limit, 1<<32 + 1, math.MaxInt} {
		list = append(list, impl.Tally{Ready: n, Unready: 2, Missing: 1, Sum: 1200}, impl.Tally{Ready: 3, Unready: n, Missing: 1, Sum: 1200}, impl.Tally{Ready: 3, Unready: 2, Missing: n, Sum: 1200})
		list = append(list, impl.Tally{Ready: n, Sum: 5000}, impl.Tally{Ready: 3, Unready: n, Sum: 3000}, impl.Tally{Ready: 3, Missing: n, Sum: 5000}, impl.Tally{Ready: n, Unready: n, Missing: n, Sum: 5000})
	}
	for _, sum := range notSizes() {
		list = append(list, impl.Tally{Ready: 3, Unready: 2, Missing: 1, Sum: sum}, impl.Tally{Ready: 12, Sum: sum})
	}
	return list
}

// counts are ordinary and at both limits.
func counts() []int { return []int{0, 1, 2, 3, 4, 5, 7, 12, 100, manyCount - 1, manyCount} }

func notCounts() []int {
	return []int{math.MinInt, -manyCount, -2, -1, manyCount + 1, limit, 1<<32 + 1, math.MaxInt}
}

func TestRefusedTallies(t *testing.T) {
	refuse := func(tally impl.Tally, g impl.Goal) {
		if sum, n := impl.RefillOf(tally, g); sum != 0 || n != 0 {
			t.Errorf("RefillOf(%+v, %+v) = %d, %d", tally, g, sum, n)
		}
		for _, count := range counts() {
			if got := impl.WantOf(count, tally, g); got != -1 {
				t.Errorf("WantOf(%d, %+v, %+v) = %d", count, tally, g, got)
			}
		}
		if got := impl.UsageText(tally, g); got != "-" {
			t.Errorf("UsageText(%+v, %+v) = %q", tally, g, got)
		}
	}
	for _, tally := range badTallies() {
		refuse(tally, cpu(1000, 100))
		refuse(tally, cpu(1, 0))
		refuse(tally, cpu(longTarget, longTol))
		refuse(tally, impl.Goal{})
	}
	for _, tally := range []impl.Tally{{Ready: 3, Sum: 3000}, {Ready: 3, Sum: 6000}, {Ready: 3, Unready: 2, Missing: 1, Sum: 1200}, {Ready: 1}, {Ready: 12, Unready: 12, Missing: 12, Sum: limit}} {
		for _, g := range badGoals() {
			refuse(tally, g)
		}
		for _, count := range notCounts() {
			if got := impl.WantOf(count, tally, cpu(1000, 100)); got != -1 {
				t.Errorf("WantOf(%d, %+v) = %d", count, tally, got)
			}
		}
	}
}

func TestRefillOf(t *testing.T) {
	cases := []struct {
		tally  impl.Tally
		target int
		sum, n int
	}{
		{impl.Tally{Ready: 3, Unready: 2, Missing: 1, Sum: 1200}, 1000, 2200, 4},
		{impl.Tally{Ready: 3, Sum: 1200}, 1000, 1200, 3}, {impl.Tally{Ready: 3, Sum: 3000}, 1000, 3000, 3}, {impl.Tally{Ready: 3, Sum: 6000}, 1000, 6000, 3},
		{impl.Tally{Ready: 3, Unready: 2, Sum: 1200}, 1000, 1200, 3}, {impl.Tally{Ready: 3, Unready: 2, Sum: 3000}, 1000, 3000, 3}, {impl.Tally{Ready: 3, Unready: 2, Sum: 6000}, 1000, 6000, 5},
		{impl.Tally{Ready: 3, Missing: 2, Sum: 1200}, 1000, 3200, 5}, {impl.Tally{Ready: 3, Missing: 2, Sum: 3000}, 1000, 3000, 3}, {impl.Tally{Ready: 3, Missing: 2, Sum: 6000}, 1000, 6000, 5},
		{impl.Tally{Ready: 3, Unready: 2, Missing: 1, Sum: 2999}, 1000, 3999, 4}, {impl.Tally{Ready: 3, Unready: 2, Missing: 1, Sum: 3000}, 1000, 3000, 3}, {impl.Tally{Ready: 3, Unready: 2, Missing: 1, Sum: 3001}, 1000, 3001, 6},
		{impl.Tally{Ready: 1, Missing: 1}, 1, 1, 2}, {impl.Tally{Ready: 1, Unready: 1}, 1, 0, 1}, {impl.Tally{Ready: 1, Missing: 1, Sum: 1}, 1, 1, 1}, {impl.Tally{Ready: 1, Missing: 1, Sum: 2}, 1, 2, 2},
		{impl.Tally{Ready: 12, Unready: 12, Missing: 12, Sum: limit}, longTarget, limit, 36}, {impl.Tally{Ready: 12, Unready: 12, Missing: 12, Sum: 12 * longTarget}, longTarget, 12 * longTarget, 12},
		{impl.Tally{Ready: 12, Unready: 12, Missing: 12, Sum: 12*longTarget - 1}, longTarget, 24*longTarget - 1, 24}, {impl.Tally{Ready: 12, Unready: 12, Missing: 12}, longTarget, 12 * longTarget, 24}, {impl.Tally{Ready: 1, Unready: 12, Missing: 12, Sum: limit}, 1, limit, 25},
	}
	for _, c := range cases {
		for _, tol := range goodTols() {
			if sum, n := impl.RefillOf(c.tally, cpu(c.target, tol)); sum != c.sum || n != c.n {
				t.Errorf("RefillOf(%+v, %d by %d) = %d, %d, want %d, %d", c.tally, c.target, tol, sum, n, c.sum, c.n)
			}
		}
	}
}

type wantCase struct {
	count int
	tally impl.Tally
	goal  impl.Goal
	want  int
}

func checkWants(t *testing.T, cases []wantCase) {
	t.Helper()
	for _, c := range cases {
		if got := impl.WantOf(c.count, c.tally, c.goal); got != c.want {
			t.Errorf("WantOf(%d, %+v, %+v) = %d, want %d", c.count, c.tally, c.goal, got, c.want)
		}
	}
}

func TestWantOf(t *testing.T) {
	g := cpu(1000, 100)
	checkWants(t, []wantCase{
		{3, impl.Tally{Ready: 3, Sum: 6000}, g, 6}, {4, impl.Tally{Ready: 4, Sum: 1500}, g, 2}, {3, impl.Tally{Ready: 3, Sum: 6001}, g, 7}, {4, impl.Tally{Ready: 4, Sum: 2001}, g, 3}, {4, impl.Tally{Ready: 4}, g, 0}, {4, impl.Tally{Ready: 4, Sum: 1}, g, 1},
		// At the edges of the tolerance, and one beyond them.
		{3, impl.Tally{Ready: 3, Sum: 3200}, g, 3}, {3, impl.Tally{Ready: 3, Sum: 3300}, g, 3}, {3, impl.Tally{Ready: 3, Sum: 3301}, g, 4}, {5, impl.Tally{Ready: 5, Sum: 4500}, g, 5}, {6, impl.Tally{Ready: 6, Sum: 5400}, cpu(1000, 99), 6}, {20, impl.Tally{Ready: 12, Sum: 10800}, g, 20}, {20, impl.Tally{Ready: 12, Sum: 10799}, g, 11},
		{3, impl.Tally{Ready: 3, Sum: 3000}, cpu(1000, 0), 3}, {3, impl.Tally{Ready: 3, Sum: 3001}, cpu(1000, 0), 4}, {3, impl.Tally{Ready: 3, Sum: 2000}, cpu(1000, 0), 2}, {3, impl.Tally{Ready: 3, Sum: 2001}, cpu(1000, 0), 3}, {9, impl.Tally{Ready: 3, Sum: 3000}, cpu(1000, 0), 9},
		{3, impl.Tally{Ready: 3}, cpu(1000, 1000), 3}, {3, impl.Tally{Ready: 3, Sum: 6000}, cpu(1000, 1000), 3}, {3, impl.Tally{Ready: 3, Sum: 6001}, cpu(1000, 1000), 7}, {3, impl.Tally{Ready: 3}, cpu(1000, 999), 0},
		// The count is not the number of ready pods, and stays rather than turn around.
		{9, impl.Tally{Ready: 3, Sum: 6000}, g, 9}, {6, impl.Tally{Ready: 3, Sum: 6000}, g, 6}, {5, impl.Tally{Ready: 3, Sum: 6000}, g, 6}, {7, impl.Tally{Ready: 3, Sum: 6000}, g, 7}, {1, impl.Tally{Ready: 4, Sum: 1500}, g, 1}, {2, impl.Tally{Ready: 4, Sum: 1500}, g, 2}, {9, impl.Tally{Ready: 4, Sum: 1500}, g, 2}, {1, impl.Tally{Ready: 4}, g, 0},
		// The ends of the counts.
		{0, impl.Tally{Ready: 2, Sum: 5000}, g, 0}, {0, impl.Tally{Ready: 2, Sum: 100}, g, 0}, {0, impl.Tally{Ready: 2, Sum: 2000}, g, 0}, {1, impl.Tally{Ready: 1, Sum: 1101}, g, 2}, {manyCount, impl.Tally{Ready: 2, Sum: 5000}, g, manyCount}, {manyCount, impl.Tally{Ready: 2, Sum: 100}, g, 1}, {manyCount + 1, impl.Tally{Ready: 2, Sum: 5000}, g, -1}, {-1, impl.Tally{Ready: 2, Sum: 5000}, g, -1},
		{3, impl.Tally{Ready: 3, Sum: 999000}, g, 999}, {3, impl.Tally{Ready: 3, Sum: 999001}, g, manyCount}, {3, impl.Tally{Ready: 3, Sum: 1000000}, g, manyCount}, {3, impl.Tally{Ready: 3, Sum: 1000001}, g, manyCount}, {3, impl.Tally{Ready: 3, Sum: limit}, g, manyCount}, {3, impl.Tally{Ready: 3, Sum: limit}, cpu(1, 1000), manyCount}, {3, impl.Tally{Ready: 3, Sum: 5}, cpu(1, 0), 5},
		{3, impl.Tally{Ready: 3, Sum: limit}, cpu(longTarget, 0), manyCount}, {3, impl.Tally{Ready: 3, Sum: limit - longTarget}, cpu(longTarget, 1000), 999}, {3, impl.Tally{Ready: 3, Sum: longTarget}, cpu(longTarget, 0), 1}, {3, impl.Tally{Ready: 3, Sum: longTarget + 1}, cpu(longTarget, 0), 2}, {3, impl.Tally{Ready: 3, Sum: 6000}, cpu(longTarget, 0), 1},
		{3, impl.Tally{}, g, -1}, {3, impl.Tally{Unready: 3, Missing: 3}, g, -1}, {0, impl.Tally{}, g, -1}, {0, impl.Tally{Ready: 2, Sum: 5000}, impl.Goal{}, -1},
	})
}

func TestWantOfRefills(t *testing.T) {
	g, exact := cpu(1000, 100), cpu(1000, 0)
	checkWants(t, []wantCase{
		{4, impl.Tally{Ready: 3, Missing: 1, Sum: 1200}, g, 3}, {3, impl.Tally{Ready: 2, Missing: 1, Sum: 5000}, g, 5}, {3, impl.Tally{Ready: 2, Unready: 1, Sum: 5000}, g, 5}, {4, impl.Tally{Ready: 3, Unready: 1, Sum: 1200}, g, 2},
		// The refill brings the usage into the tolerance: 2700 and 3300 are its edges for 3 pods.
		{3, impl.Tally{Ready: 2, Missing: 1, Sum: 2700}, g, 3}, {2, impl.Tally{Ready: 2, Missing: 1, Sum: 3300}, g, 2}, {2, impl.Tally{Ready: 2, Missing: 1, Sum: 3301}, g, 4}, {2, impl.Tally{Ready: 2, Unready: 1, Sum: 3300}, g, 2}, {2, impl.Tally{Ready: 2, Unready: 1, Sum: 3301}, g, 4},
		{9, impl.Tally{Ready: 2, Missing: 1, Sum: 1700}, g, 9}, {9, impl.Tally{Ready: 2, Missing: 1, Sum: 1699}, g, 3}, {9, impl.Tally{Ready: 2, Missing: 1, Sum: 1000}, g, 2}, {9, impl.Tally{Ready: 1, Missing: 9}, g, 9}, {9, impl.Tally{Ready: 1, Missing: 8}, g, 8}, {9, impl.Tally{Ready: 1, Unready: 9}, g, 0},
		// The refill meets the sum meant exactly, or changes the sign.
		{2, impl.Tally{Ready: 2, Missing: 1, Sum: 3000}, exact, 2}, {2, impl.Tally{Ready: 2, Missing: 1, Sum: 3001}, exact, 4}, {2, impl.Tally{Ready: 2, Missing: 1, Sum: 2999}, exact, 2}, {2, impl.Tally{Ready: 2, Unready: 1, Sum: 3000}, exact, 2}, {2, impl.Tally{Ready: 2, Unready: 1, Sum: 2999}, exact, 2},
		{3, impl.Tally{Ready: 2, Missing: 1, Sum: 2500}, g, 3}, {2, impl.Tally{Ready: 2, Missing: 1, Sum: 2500}, g, 2}, {9, impl.Tally{Ready: 2, Missing: 1, Sum: 2500}, g, 9}, {9, impl.Tally{Ready: 2, Unready: 3, Sum: 2500}, g, 9}, {9, impl.Tally{Ready: 2, Unready: 12, Missing: 12, Sum: 5000}, g, 9}, {1, impl.Tally{Ready: 2, Unready: 12, Missing: 12, Sum: 5000}, g, 1},
		// The ready pods alone are within the tolerance, the refilled ones are not.
		{2, impl.Tally{Ready: 2, Missing: 4, Sum: 2200}, g, 2}, {9, impl.Tally{Ready: 2, Missing: 4, Sum: 2200}, g, 9}, {9, impl.Tally{Ready: 2, Unready: 4, Sum: 2001}, g, 9}, {1, impl.Tally{Ready: 2, Unready: 12, Sum: 2001}, g, 1}, {9, impl.Tally{Ready: 2, Missing: 3, Sum: 2000}, exact, 9},
		// The refill counts for the result, and the count does not turn around.
		{2, impl.Tally{Ready: 3, Missing: 1, Sum: 1200}, g, 2}, {3, impl.Tally{Ready: 3, Missing: 1, Sum: 1200}, g, 3}, {5, impl.Tally{Ready: 3, Missing: 2, Sum: 1200}, g, 4}, {8, impl.Tally{Ready: 2, Unready: 2, Missing: 1, Sum: 7000}, g, 8}, {6, impl.Tally{Ready: 2, Unready: 2, Missing: 1, Sum: 7000}, g, 7},
		{0, impl.Tally{Ready: 3, Missing: 1, Sum: 1200}, g, 0}, {0, impl.Tally{Ready: 2, Missing: 1, Sum: 2500}, g, 0}, {manyCount, impl.Tally{Ready: 12, Unready: 12, Missing: 12, Sum: 0}, cpu(longTarget, 0), 12}, {1, impl.Tally{Ready: 12, Unready: 12, Missing: 12, Sum: limit}, cpu(longTarget, 0), manyCount},
	})
}

// wantByRule follows the document sentence by sentence.
func wantByRule(count int, tally impl.Tally, g impl.Goal) int {
	sign := func(sum int, n int) int { return big.NewInt(int64(sum)).Cmp(product(n, g.Target)) }
	inside := func(sum int, n int) bool {
		return max(sum-n*g.Target, n*g.Target-sum)*1000 <= n*g.Target*g.Tol
	}
	sum, n := tally.Sum, tally.Ready
	if sign(tally.Sum, tally.Ready) < 0 {
		sum, n = tally.Sum+tally.Missing*g.Target, tally.Ready+tally.Missing
	}
	if sign(tally.Sum, tally.Ready) > 0 {
		n = tally.Ready + tally.Unready + tally.Missing
	}
	if count == 0 || inside(tally.Sum, tally.Ready) || inside(sum, n) || sign(tally.Sum, tally.Ready) != sign(sum, n) {
		return count
	}
	x := 0
	for x < manyCount && x*g.Target < sum {
		x++
	}
	if sign(sum, n) > 0 && x < count || sign(sum, n) < 0 && x > count {
		return count
	}
	return x
}

// tallies are usable ones whose sums lie around the edges that matter to g.
func tallies(g impl.Goal) []impl.Tally {
	var list []impl.Tally
	for _, ready := range []int{1, 2, 3, 5, manyPods} {
		for _, unready := range []int{0, 1, 2, manyPods} {
			for _, missing := range []int{0, 1, 3, manyPods} {
				sums := []int{0, 1, g.Target, 50 * g.Target, 50*g.Target + 1, 999 * g.Target, 999*g.Target + 1, limit}
				sums = append(sums, bandEdges(ready, g)...)
				sums = append(sums, bandEdges(ready+unready+missing, g)...)
				for _, sum := range bandEdges(ready+missing, g) {
					sums = append(sums, sum-missing*g.Target)
				}
				slices.Sort(sums)
				for _, sum := range slices.Compact(sums) {
					if 0 <= sum && sum <= limit {
						list = append(list, impl.Tally{Ready: ready, Unready: unready, Missing: missing, Sum: sum})
					}
				}
			}
		}
	}
	return list
}

func usualGoals() []impl.Goal {
	var list []impl.Goal
	for _, target := range []int{1, 3, 1000, longTarget} {
		for _, tol := range []int{0, 1, 100, 500, longTol} {
			list = append(list, cpu(target, tol))
		}
	}
	return list
}

func TestWantOfFollowsTheRule(t *testing.T) {
	moves := map[int]int{}
	for _, g := range usualGoals() {
		for _, tally := range tallies(g) {
			for _, count := range counts() {
				want := wantByRule(count, tally, g)
				if got := impl.WantOf(count, tally, g); got != want {
					t.Fatalf("WantOf(%d, %+v, %+v) = %d, want %d", count, tally, g, got, want)
				}
				moves[min(max(want-count, -1), 1)]++
			}
		}
	}
	if moves[-1] == 0 || moves[0] == 0 || moves[1] == 0 {
		t.Errorf("moves in each direction: %v", moves)
	}
}

// Promise 5: the count is left alone within the tolerance, and is otherwise the
// smallest that is sufficient for the refilled sum.
func TestWantOfIsSufficientAndLeavesTheBandAlone(t *testing.T) {
	for _, g := range usualGoals() {
		for _, tally := range tallies(g) {
			sum, n := impl.RefillOf(tally, g)
			for _, count := range counts() {
				want := impl.WantOf(count, tally, g)
				if want < 0 || want > manyCount {
					t.Fatalf("WantOf(%d, %+v, %+v) = %d", count, tally, g, want)
				}
				if want == count {
					continue
				}
				if impl.InBand(tally.Sum, tally.Ready, g) || impl.InBand(sum, n, g) {
					t.Errorf("WantOf(%d, %+v, %+v) = %d within the tolerance", count, tally, g, want)
				}
				if want < manyCount && want*g.Target < sum {
					t.Errorf("WantOf(%d, %+v, %+v) = %d is not sufficient for %d", count, tally, g, want, sum)
				}
				if want > 0 && (want-1)*g.Target >= sum {
					t.Errorf("WantOf(%d, %+v, %+v) = %d is more than %d needs", count, tally, g, want, sum)
				}
			}
		}
	}
}

// checkDampened expects that more moves the count no farther than less does, and
// never the other way.
func checkDampened(t *testing.T, count int, less impl.Tally, more impl.Tally, g impl.Goal) {
	t.Helper()
	far, near := impl.WantOf(count, less, g)-count, impl.WantOf(count, more, g)-count
	if near > max(far, 0) || near < min(far, 0) {
		t.Errorf("count %d by %+v: %+v moves it by %d, but %+v by %d", count, g, less, far, more, near)
	}
}

func TestMissingAndUnreadyPodsNeverIncreaseTheChange(t *testing.T) {
	for _, g := range usualGoals() {
		for _, tally := range tallies(g) {
			for _, count := range counts() {
				measured := impl.Tally{Ready: tally.Ready, Sum: tally.Sum}
				checkDampened(t, count, measured, tally, g)
				more := tally
				more.Missing = min(tally.Missing+1, manyPods)
				checkDampened(t, count, tally, more, g)
				more = tally
				more.Unready = min(tally.Unready+1, manyPods)
				checkDampened(t, count, tally, more, g)
			}
		}
	}
}

// wantsAround are n desired counts with the given one in the place i.
func wantsAround(n int, i int, x int, others int) []int {
	list := filled(n, others)
	list[i] = x
	return list
}

func TestCombineWants(t *testing.T) {
	cases := []struct {
		count int
		list  []int
		want  int
	}{
		{4, []int{2, -1}, 4}, {4, []int{6, -1}, 6}, {4, []int{2, 3}, 3}, {4, nil, -1}, {4, []int{}, -1},
		{4, []int{2}, 2}, {4, []int{4}, 4}, {4, []int{9}, 9}, {4, []int{-1}, 4}, {4, []int{-1, -1, -1}, 4}, {4, []int{0}, 0}, {0, []int{0}, 0}, {0, []int{-1}, 0}, {0, []int{5, -1}, 5}, {0, []int{0, -1}, 0}, {4, []int{0, 0, 0}, 0},
		{4, []int{3, -1}, 4}, {4, []int{4, -1}, 4}, {4, []int{5, -1}, 5}, {4, []int{-1, 3}, 4}, {4, []int{-1, 4}, 4}, {4, []int{-1, 5}, 5}, {4, []int{1, -1, 3, 2}, 4}, {4, []int{1, 7, -1, 2}, 7}, {4, []int{1, 7, 5, 2}, 7}, {4, []int{3, 3, 1}, 3},
		{manyCount, []int{manyCount}, manyCount}, {manyCount, []int{0, -1}, manyCount}, {manyCount, []int{-1}, manyCount}, {manyCount, []int{0}, 0}, {0, []int{manyCount, -1}, manyCount}, {1, []int{0, -1}, 1}, {1, []int{0}, 0},
		{4, []int{manyCount + 1}, -1}, {4, []int{-2}, -1}, {4, []int{2, -2}, -1}, {4, []int{-2, 6}, -1}, {4, []int{6, manyCount + 1}, -1}, {4, []int{-1, -2}, -1}, {4, []int{manyCount + 1, -1}, -1}, {4, []int{2, math.MinInt, 3}, -1}, {4, []int{2, math.MaxInt, 3}, -1}, {4, []int{math.MaxInt, math.MinInt}, -1},
		{-1, []int{2}, -1}, {-1, []int{-1}, -1}, {manyCount + 1, []int{2}, -1}, {manyCount + 1, []int{-1}, -1}, {math.MinInt, []int{2}, -1}, {math.MaxInt, []int{-1, 2}, -1}, {-1, nil, -1}, {manyCount + 1, nil, -1},
		{4, filled(longList, 3), 3}, {4, filled(longList, -1), 4}, {4, filled(longList, manyCount), manyCount}, {4, filled(longList+1, 3), -1}, {4, filled(longList+1, -1), -1}, {4, filled(10*longList, 9), -1},
	}
	for _, c := range cases {
		argument := append(slices.Clone(c.list), -77, -77)[:len(c.list)]
		if got := impl.CombineWants(c.count, argument); got != c.want {
			t.Errorf("CombineWants(%d, %v) = %d, want %d", c.count, c.list, got, c.want)
		}
		if !slices.Equal(argument[:len(c.list)+2], append(slices.Clone(c.list), -77, -77)) {
			t.Errorf("CombineWants(%d, %v) changed its argument to %v", c.count, c.list, argument)
		}
	}
}

func TestCombineWantsInEveryPlace(t *testing.T) {
	for _, n := range []int{1, 2, 3, longList - 1, longList, longList + 1} {
		for _, i := range []int{0, n / 2, n - 1} {
			for _, c := range []struct{ x, others, want int }{
				{7, 2, 7}, {-1, 2, 4}, {-1, 4, 4}, {-1, 5, 5}, {2, 3, 3}, {manyCount, 0, manyCount}, {3, -1, 4}, {4, -1, 4}, {5, -1, 5}, {-2, 5, -1}, {manyCount + 1, 5, -1}, {-2, -1, -1}, {manyCount + 1, -1, -1},
			} {
				want := c.want
				if n == 1 && c.others >= 0 && c.x == -1 {
					want = 4
				}
				if n == 1 && c.x >= 0 && c.x <= manyCount {
					want = c.x
				}
				if n > longList {
					want = -1
				}
				if got := impl.CombineWants(4, wantsAround(n, i, c.x, c.others)); got != want {
					t.Errorf("CombineWants of %d times %d and of %d in place %d = %d, want %d", n-1, c.others, c.x, i, got, want)
				}
			}
		}
	}
}

// combinedByRule finds the result by counting, without the order of the elements.
func combinedByRule(count int, list []int) int {
	most, negative := -1, 0
	for _, want := range list {
		if want < 0 {
			negative++
			continue
		}
		most = max(most, want)
	}
	if negative == len(list) || negative > 0 && most < count {
		return count
	}
	return most
}

// Promise 5: the count does not decrease if a metric is unknown.
func TestCombineWantsOfAllShortLists(t *testing.T) {
	values := []int{-1, 0, 1, 3, 4, 5, manyCount}
	var extend func(list []int)
	extend = func(list []int) {
		for _, count := range []int{0, 1, 4, 5, manyCount} {
			got := impl.CombineWants(count, list)
			if want := combinedByRule(count, list); got != want {
				t.Errorf("CombineWants(%d, %v) = %d, want %d", count, list, got, want)
			}
			if slices.Contains(list, -1) && got < count {
				t.Errorf("CombineWants(%d, %v) = %d is a decrease", count, list, got)
			}
		}
		if len(list) == 4 {
			return
		}
		for _, x := range values {
			extend(append(slices.Clone(list), x))
		}
	}
	for _, x := range values {
		extend([]int{x})
	}
}

func TestUsageText(t *testing.T) {
	cases := []struct {
		tally impl.Tally
		goal  impl.Goal
		want  string
	}{
		{impl.Tally{Ready: 3, Sum: 6000}, cpu(1000, 100), "2/1"}, {impl.Tally{Ready: 3, Sum: 6002}, cpu(1000, 100), "2/1"}, {impl.Tally{Ready: 3, Sum: 6003}, cpu(1000, 100), "2.001/1"}, {impl.Tally{Ready: 3, Sum: 5999}, cpu(1250, 0), "1.999/1.25"},
		{impl.Tally{Ready: 3, Unready: 2, Missing: 1, Sum: 1200}, cpu(1000, 100), "0.4/1"}, {impl.Tally{Ready: 3, Unready: 12, Missing: 12, Sum: 1201}, cpu(1000, 100), "0.4/1"}, {impl.Tally{Ready: 1}, cpu(1, 0), "0/0.001"}, {impl.Tally{Ready: 12, Sum: 11}, cpu(1, 0), "0/0.001"}, {impl.Tally{Ready: 12, Sum: 12}, cpu(999, 0), "0.001/0.999"},
		{impl.Tally{Ready: 1, Sum: limit}, cpu(longTarget, 1000), "1000000/1000"}, {impl.Tally{Ready: 12, Sum: limit}, cpu(longTarget-1, 1000), "83333.333/999.999"}, {impl.Tally{Ready: 7, Sum: limit}, cpu(10, 1000), "142857.142/0.01"},
		{impl.Tally{}, cpu(1000, 100), "-"}, {impl.Tally{Missing: 3}, cpu(1000, 100), "-"}, {impl.Tally{Ready: 3, Sum: 6000}, impl.Goal{}, "-"}, {impl.Tally{Ready: 3, Sum: limit + 1}, cpu(1000, 100), "-"}, {impl.Tally{Ready: 13, Sum: 6000}, cpu(1000, 100), "-"}, {impl.Tally{Ready: 3, Sum: 6000}, cpu(0, 100), "-"},
	}
	for _, c := range cases {
		if got := impl.UsageText(c.tally, c.goal); got != c.want {
			t.Errorf("UsageText(%+v, %+v) = %q, want %q", c.tally, c.goal, got, c.want)
		}
	}
}

func TestGoalLine(t *testing.T) {
	cases := []struct {
		goal impl.Goal
		line string
	}{
		{cpu(1000, 100), "cpu 1 100"}, {cpu(1250, 0), "cpu 1.25 0"}, {cpu(1, 0), "cpu 0.001 0"}, {cpu(10, 1), "cpu 0.01 1"}, {cpu(longTarget, longTol), "cpu 1000 1000"}, {cpu(longTarget-1, longTol-1), "cpu 999.999 999"},
		{impl.Goal{Metric: "0", Target: 500, Tol: 10}, "0 0.5 10"}, {impl.Goal{Metric: "abcdefghijkl", Target: 100000, Tol: 5}, "abcdefghijkl 100 5"},
	}
	for _, c := range cases {
		if got := impl.GoalLine(c.goal); got != c.line {
			t.Errorf("GoalLine(%+v) = %q, want %q", c.goal, got, c.line)
		}
	}
	for _, g := range badGoals() {
		if got := impl.GoalLine(g); got != "" {
			t.Errorf("GoalLine(%+v) = %q", g, got)
		}
	}
}

func TestGoalsAreReadAsTheyWereWritten(t *testing.T) {
	goals := goodGoals()
	for target := 1; target <= 12000; target++ {
		goals = append(goals, impl.Goal{Metric: "ram", Target: target, Tol: target % (longTol + 1)})
	}
	seen := map[string]bool{}
	for _, g := range goals {
		line := impl.GoalLine(g)
		if got, ok := impl.ParseGoal(line); !ok || got != g {
			t.Errorf("ParseGoal(%q) = %+v, %v, want %+v", line, got, ok, g)
		}
		checkGoalLine(t, line)
		seen[line] = true
	}
	if len(seen) != len(goals) {
		t.Errorf("%d goals have %d lines", len(goals), len(seen))
	}
}

// goalGrammar says independently of the program what GoalLine writes, but for the limits of the numbers.
var goalGrammar = regexp.MustCompile(`\A([a-z0-9]{1,12}) ((?:0|[1-9][0-9]*)(?:\.[0-9]{0,2}[1-9])?) (0|[1-9][0-9]*)\z`)

func goalByGrammar(line string) (impl.Goal, bool) {
	m := goalGrammar.FindStringSubmatch(line)
	if m == nil {
		return impl.Goal{}, false
	}
	target, ok := exactUpTo(m[2], 1000, longTarget)
	tol, ok2 := exactUpTo(m[3], 1, longTol)
	if !ok || !ok2 || target == 0 {
		return impl.Goal{}, false
	}
	return impl.Goal{Metric: m[1], Target: target, Tol: tol}, true
}

func checkGoalLine(t *testing.T, line string) {
	t.Helper()
	want, written := goalByGrammar(line)
	if got, ok := impl.ParseGoal(line); got != want || ok != written {
		t.Errorf("ParseGoal(%q) = %+v, %v, want %+v, %v", line, got, ok, want, written)
	}
}

func checkNoGoal(t *testing.T, line string) {
	t.Helper()
	if got, ok := impl.ParseGoal(line); ok || got != (impl.Goal{}) {
		t.Errorf("ParseGoal(%q) = %+v, %v", line, got, ok)
	}
}

func TestParseGoalRefuses(t *testing.T) {
	lines := []string{
		"", " ", "  ", "   ", "bad", "cpu", "cpu 1", "cpu 1 ", "1 100", "cpu 100", "cpu 1 100 1", "cpu cpu 1 100", "cpu 1 1 100", "cpu 1 100 x", "goal cpu 1 100",
		" cpu 1 100", "cpu 1 100 ", "cpu  1 100", "cpu 1  100", "cpu\t1\t100", "cpu 1\t100", "cpu 1 100\n", "cpu 1 100\r", "\ncpu 1 100", "cpu 1 100\x00", "cpu 1\n100", " 1 100", "cpu  100",
		"cpu 1.0 100", "cpu 1.250 100", "cpu 01 100", "cpu 00.5 100", "cpu .5 100", "cpu 1. 100", "cpu +1 100", "cpu -1 100", "cpu -0.5 100", "cpu -0 100", "cpu 1e3 100", "cpu 0x1 100", "cpu 1,5 100", "cpu 0.0005 100", "cpu 1.2345 100", "cpu 1..5 100", "cpu 1.2.3 100", "cpu . 100", "cpu x 100", "cpu １ 100",
		"cpu 0 100", "cpu 0.000 100", "cpu 1000.001 100", "cpu 1001 100", "cpu 1000000 100", "cpu 1000001 100", "cpu 18446744073709551617 100", "cpu 99999999999999999999999 100",
		"cpu 1 1001", "cpu 1 -1", "cpu 1 -0", "cpu 1 +100", "cpu 1 0100", "cpu 1 00", "cpu 1 100.0", "cpu 1 0.1", "cpu 1 .1", "cpu 1 1.", "cpu 1 1e2", "cpu 1 0x64", "cpu 1 1_0", "cpu 1 10%", "cpu 1 x", "cpu 1 ３", "cpu 1 4294967396", "cpu 1 9223372036854775808", "cpu 1 18446744073709551716", "cpu 1 -9223372036854775808",
		"CPU 1 100", "Cpu 1 100", "c-u 1 100", "c_u 1 100", "é 1 100", "c\xff 1 100", "abcdefghijklm 1 100", "# cpu 1 100", "cpu,1,100", "cpu;1;100", "cpu 1 100;", "cpu\u00a01\u00a0100", "100 1 cpu", "cpu/1/100", "cpu:1 100",
		strings.Repeat(" ", 5000), strings.Repeat("a", 5000), strings.Repeat("a", 5000) + " 1 100", "cpu " + strings.Repeat("0", 5000) + " 100", "cpu " + strings.Repeat("9", 5000) + " 100", "cpu 1 " + strings.Repeat("0", 5000), "cpu 1 " + strings.Repeat("9", 5000), strings.Repeat("cpu 1 100 ", 1000),
	}
	for _, line := range lines {
		checkNoGoal(t, line)
	}
	// An invalid goal has the empty line, but that is the line of no goal.
	for _, g := range badGoals() {
		checkNoGoal(t, impl.GoalLine(g))
		checkNoGoal(t, fmt.Sprintf("%s %s %d", g.Metric, impl.MilliText(g.Target), g.Tol))
	}
}

func TestAllShortGoalLines(t *testing.T) {
	written := 0
	var extend func(line string, left int)
	extend = func(line string, left int) {
		if _, ok := goalByGrammar(line); ok {
			written++
		}
		checkGoalLine(t, line)
		if left == 0 {
			return
		}
		for _, next := range []string{"a", " ", "0", "1", "."} {
			extend(line+next, left-1)
		}
	}
	extend("", 6)
	extend("a 0.", 5)
	extend("a 1", 5)
	if written == 0 {
		t.Error("no line was a goal")
	}
}

// A line that differs from a written one in a single byte is the likeliest to be read by mistake.
func TestGoalLinesWithOneByteChanged(t *testing.T) {
	lines := []string{"cpu 1 100", "cpu 1.25 0", "abcdefghijkl 1000 1000", "0 0.001 1", "ram 999.999 999", "a 0.1 10"}
	for _, line := range lines {
		for i := range len(line) {
			for b := range 256 {
				checkGoalLine(t, line[:i]+string([]byte{byte(b)})+line[i+1:])
				checkGoalLine(t, line[:i]+string([]byte{byte(b)})+line[i:])
			}
			checkGoalLine(t, line[:i]+line[i+1:])
			checkGoalLine(t, line[:i])
			checkGoalLine(t, line[i:])
		}
		for b := range 256 {
			checkGoalLine(t, line+string([]byte{byte(b)}))
		}
	}
}
