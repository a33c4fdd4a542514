package tests

import (
	"math"
	"math/big"
	"regexp"
	"slices"
	"strconv"
	"strings"
	"testing"

	"loop.example/g00808/impl"
)

const (
	limit    = 1000000000
	longList = 300
)

// edges are the ints around every limit that chapter 1 names, and the ends of int.
func edges() []int {
	return []int{
		math.MinInt, math.MinInt + 1, -limit - 1, -limit, -limit + 1, -1001, -1000, -999, -7, -2, -1,
		0, 1, 2, 3, 7, 999, 1000, 1001, 31622, 31623, limit/2 + 1, limit - 1, limit, limit + 1, math.MaxInt - 1, math.MaxInt,
	}
}

// sizes are valid operands whose products lie on both sides of the limits.
func sizes() []int {
	return []int{0, 1, 2, 3, 7, 10, 999, 1000, 1001, 31622, 31623, 333333333, limit/2 + 1, limit - 1, limit}
}

func notSizes() []int { return []int{math.MinInt, -limit, -1, limit + 1, math.MaxInt} }

func notDivisors() []int { return append(notSizes(), 0) }

func filled(n int, x int) []int { return slices.Repeat([]int{x}, n) }

func product(a int, b int) *big.Int {
	return new(big.Int).Mul(big.NewInt(int64(a)), big.NewInt(int64(b)))
}

// rounded divides exactly: Euclidean division rounds down for a positive divisor.
func rounded(a *big.Int, b int, up bool) *big.Int {
	q, m := new(big.Int).DivMod(a, big.NewInt(int64(b)), new(big.Int))
	if up && m.Sign() > 0 {
		q.Add(q, big.NewInt(1))
	}
	return q
}

func TestLimitsOfValues(t *testing.T) {
	if impl.MaxValue != limit || impl.MaxList != longList {
		t.Errorf("limits %d and %d", impl.MaxValue, impl.MaxList)
	}
}

func TestCutValue(t *testing.T) {
	cases := []struct {
		x, want int
		cut     bool
	}{
		{0, 0, false}, {1, 1, false}, {-1, -1, false}, {123456789, 123456789, false},
		{limit - 1, limit - 1, false}, {limit, limit, false}, {limit + 1, limit, true}, {math.MaxInt, limit, true},
		{-limit + 1, -limit + 1, false}, {-limit, -limit, false}, {-limit - 1, -limit, true}, {math.MinInt, -limit, true},
	}
	for _, c := range cases {
		if got, cut := impl.CutValue(c.x); got != c.want || cut != c.cut {
			t.Errorf("CutValue(%d) = %d, %v", c.x, got, cut)
		}
	}
}

type listCase struct {
	name string
	list []int
	want int
	flag bool
}

func checkLists(t *testing.T, name string, f func([]int) (int, bool), cases []listCase) {
	for _, c := range cases {
		before := slices.Clone(c.list)
		if got, flag := f(c.list); got != c.want || flag != c.flag {
			t.Errorf("%s of %s = %d, %v, want %d, %v", name, c.name, got, flag, c.want, c.flag)
		}
		if !slices.Equal(c.list, before) {
			t.Errorf("%s of %s changed its argument", name, c.name)
		}
	}
}

func TestAddValues(t *testing.T) {
	checkLists(t, "AddValues", impl.AddValues, []listCase{
		{"nil", nil, 0, false},
		{"an empty list", []int{}, 0, false},
		{"one", []int{-5}, -5, false},
		{"several", []int{1, -2, 30}, 29, false},
		{"the document's example", []int{limit - 1, 5}, limit, true},
		{"a sum at the upper limit", []int{limit - 1, 1}, limit, false},
		{"a sum one beyond it", []int{limit, 1}, limit, true},
		{"a sum at the lower limit", []int{-limit + 1, -1}, -limit, false},
		{"a sum one below it", []int{-limit, -1}, -limit, true},
		{"a sum clamped on the way up", []int{limit, 5, -5}, limit - 5, true},
		{"a sum clamped on the way down", []int{-limit, -limit, limit}, 0, true},
		{"a sum clamped at both ends", []int{limit, limit, -limit, -limit, -1, 2}, -limit + 2, true},
		{"a sum that would leave the limits in another order", []int{limit, -limit, limit}, limit, false},
		{"the upper limit", []int{limit}, limit, false},
		{"the lower limit", []int{-limit}, -limit, false},
		{"one above the values", []int{limit + 1}, 0, true},
		{"one below the values", []int{-limit - 1}, 0, true},
		{"no value at the end", []int{1, 2, limit + 1}, 0, true},
		{"no value after a clamped sum", []int{limit, 1, -limit - 1}, 0, true},
		{"no value whose sum is one", []int{limit + 1, -1}, 0, true},
		{"the largest int", []int{math.MaxInt, -1}, 0, true},
		{"the smallest int", []int{0, math.MinInt}, 0, true},
		{"both ends of int", []int{math.MaxInt, math.MinInt}, 0, true},
		{"a list of MaxList", filled(longList, 3), 3 * longList, false},
		{"a list of MaxList that is clamped", filled(longList, limit), limit, true},
		{"a list of MaxList at the lower limit", filled(longList, -limit), -limit, true},
		{"a list that is too long", filled(longList+1, 1), 0, true},
		{"zeros that are too many", filled(longList+1, 0), 0, true},
	})
}

func TestMeanOf(t *testing.T) {
	checkLists(t, "MeanOf", impl.MeanOf, []listCase{
		{"the document's example", []int{1, 2, 4}, 2, true},
		{"one", []int{-5}, -5, true},
		{"a zero", []int{0}, 0, true},
		{"a negative sum", []int{-1, -2, -4}, -3, true},
		{"a negative sum above -1", []int{0, 0, -1}, -1, true},
		{"a negative sum that divides evenly", []int{-2, -4}, -3, true},
		{"values of both signs", []int{-7, 5, 9}, 2, true},
		{"the upper limit", []int{limit}, limit, true},
		{"the lower limit", []int{-limit, 0}, -limit / 2, true},
		{"nil", nil, 0, false},
		{"an empty list", []int{}, 0, false},
		{"a sum that is clamped", []int{limit, 1}, 0, false},
		{"a sum clamped at the lower limit", []int{-limit, -1}, 0, false},
		{"a sum that is clamped and falls again", []int{limit, 1, -1}, 0, false},
		{"no value", []int{limit + 1}, 0, false},
		{"the largest int", []int{math.MaxInt}, 0, false},
		{"the smallest int", []int{math.MinInt}, 0, false},
		{"a list of MaxList", append(filled(longList-1, 1), 300), 1, true},
		{"a negative list of MaxList", append(filled(longList-1, -1), -2), -2, true},
		{"a list that is too long", filled(longList+1, 1), 0, false},
	})
}

func TestDivisions(t *testing.T) {
	cases := []struct{ a, b, floor, ceil int }{
		{-7, 2, -4, -3}, {7, 2, 3, 4}, {-8, 2, -4, -4}, {8, 2, 4, 4}, {0, 5, 0, 0},
		{1, limit, 0, 1}, {-1, limit, -1, 0}, {-1, 1, -1, -1},
		{math.MaxInt, 1, math.MaxInt, math.MaxInt}, {math.MinInt, 1, math.MinInt, math.MinInt},
		{math.MaxInt, math.MaxInt, 1, 1}, {math.MinInt, math.MaxInt, -2, -1}, {-math.MaxInt, math.MaxInt, -1, -1},
		{7, 0, 0, 0}, {-7, 0, 0, 0}, {7, -2, 0, 0}, {-7, -1, 0, 0}, {math.MinInt, -1, 0, 0}, {math.MaxInt, math.MinInt, 0, 0},
	}
	for _, c := range cases {
		if got := impl.FloorDiv(c.a, c.b); got != c.floor {
			t.Errorf("FloorDiv(%d, %d) = %d", c.a, c.b, got)
		}
		if got := impl.CeilDiv(c.a, c.b); got != c.ceil {
			t.Errorf("CeilDiv(%d, %d) = %d", c.a, c.b, got)
		}
	}
}

func TestDivisionsAreExact(t *testing.T) {
	for _, a := range edges() {
		for _, b := range edges() {
			floor, ceil := big.NewInt(0), big.NewInt(0)
			if b >= 1 {
				floor, ceil = rounded(big.NewInt(int64(a)), b, false), rounded(big.NewInt(int64(a)), b, true)
			}
			if got := impl.FloorDiv(a, b); floor.Cmp(big.NewInt(int64(got))) != 0 {
				t.Errorf("FloorDiv(%d, %d) = %d, want %v", a, b, got, floor)
			}
			if got := impl.CeilDiv(a, b); ceil.Cmp(big.NewInt(int64(got))) != 0 {
				t.Errorf("CeilDiv(%d, %d) = %d, want %v", a, b, got, ceil)
			}
		}
	}
}

func TestMulDiv(t *testing.T) {
	cases := []struct {
		a, b, c int
		up      bool
		want    int
		ok      bool
	}{
		{7, 3, 2, true, 11, true}, {7, 3, 2, false, 10, true}, {6, 4, 3, true, 8, true},
		{0, limit, 7, true, 0, true}, {1, 1, limit, true, 1, true}, {1, 1, limit, false, 0, true},
		{limit, limit, limit, true, limit, true}, {limit, limit, limit, false, limit, true},
		{limit, 1, 1, true, limit, true}, {limit, 2, 1, false, limit, false}, {limit, limit, 1, true, limit, false},
		// The exact result is MaxValue and a part: only the one rounded up exceeds the limit.
		{666666667, 3, 2, false, limit, true}, {666666667, 3, 2, true, limit, false},
		{limit, limit, limit - 1, false, limit, false},
		{-1, 3, 2, true, 0, false}, {7, -1, 2, false, 0, false}, {7, 3, 0, true, 0, false}, {7, 3, -2, true, 0, false},
		{-7, -3, 2, true, 0, false}, {limit + 1, 0, 1, true, 0, false}, {0, limit + 1, 1, false, 0, false}, {0, 0, limit + 1, true, 0, false},
		// An invalid argument decides before the limit of the result.
		{limit, limit, 0, true, 0, false}, {limit + 1, limit, 1, true, 0, false},
	}
	for _, c := range cases {
		if got, ok := impl.MulDiv(c.a, c.b, c.c, c.up); got != c.want || ok != c.ok {
			t.Errorf("MulDiv(%d, %d, %d, %v) = %d, %v", c.a, c.b, c.c, c.up, got, ok)
		}
	}
}

func TestMulDivIsExact(t *testing.T) {
	most := big.NewInt(limit)
	for _, a := range sizes() {
		for _, b := range sizes() {
			for _, c := range sizes()[1:] {
				for _, up := range []bool{false, true} {
					exact := rounded(product(a, b), c, up)
					fits := exact.Cmp(most) <= 0
					if !fits {
						exact = most
					}
					if got, ok := impl.MulDiv(a, b, c, up); exact.Cmp(big.NewInt(int64(got))) != 0 || ok != fits {
						t.Errorf("MulDiv(%d, %d, %d, %v) = %d, %v, want %v, %v", a, b, c, up, got, ok, exact, fits)
					}
				}
			}
		}
	}
}

func TestMulDivRefuses(t *testing.T) {
	refuse := func(a int, b int, c int) {
		for _, up := range []bool{false, true} {
			if got, ok := impl.MulDiv(a, b, c, up); got != 0 || ok {
				t.Errorf("MulDiv(%d, %d, %d, %v) = %d, %v", a, b, c, up, got, ok)
			}
		}
	}
	for _, x := range notSizes() {
		refuse(x, 1, 1)
		refuse(1, x, 1)
		refuse(x, 0, limit)
		refuse(0, x, limit)
	}
	for _, c := range notDivisors() {
		refuse(1, 1, c)
		refuse(0, 0, c)
	}
}

func TestCompareRatios(t *testing.T) {
	cases := []struct{ a, b, c, d, want int }{
		{1, 3, 1, 2, -1}, {1, 2, 1, 3, 1}, {1, 2, 2, 4, 0}, {0, 1, 0, limit, 0}, {0, 1, 1, limit, -1},
		{limit, limit, 1, 1, 0}, {limit, 1, limit - 1, 1, 1}, {limit, limit - 1, limit - 1, limit, 1},
		// These two ratios are equal as float64.
		{limit - 2, limit - 1, limit - 1, limit, -1},
		{1, 0, 1, 2, 2}, {1, 2, 1, 0, 2}, {0, 0, 0, 0, 2}, {-1, 2, 1, 2, 2}, {1, 2, -1, 2, 2}, {1, -2, 1, 2, 2}, {1, 2, 1, -2, 2},
	}
	for _, c := range cases {
		if got := impl.CompareRatios(c.a, c.b, c.c, c.d); got != c.want {
			t.Errorf("CompareRatios(%d, %d, %d, %d) = %d", c.a, c.b, c.c, c.d, got)
		}
	}
}

func TestCompareRatiosIsExactAndTurnsAround(t *testing.T) {
	for _, a := range sizes() {
		for _, b := range sizes()[1:] {
			for _, c := range sizes() {
				for _, d := range sizes()[1:] {
					got, turned := impl.CompareRatios(a, b, c, d), impl.CompareRatios(c, d, a, b)
					if want := product(a, d).Cmp(product(c, b)); got != want || turned != -want {
						t.Errorf("CompareRatios of %d/%d and %d/%d = %d, exchanged %d", a, b, c, d, got, turned)
					}
				}
			}
		}
	}
}

func TestCompareRatiosRefuses(t *testing.T) {
	refuse := func(a int, b int, c int, d int) {
		if got := impl.CompareRatios(a, b, c, d); got != 2 {
			t.Errorf("CompareRatios(%d, %d, %d, %d) = %d", a, b, c, d, got)
		}
	}
	for _, x := range notSizes() {
		refuse(x, 1, 1, 1)
		refuse(1, 1, x, 1)
	}
	for _, x := range notDivisors() {
		refuse(1, x, 1, 1)
		refuse(1, 1, 1, x)
	}
}

func TestNearBy(t *testing.T) {
	cases := []struct {
		a, b, tol int
		want      bool
	}{
		{110, 100, 100, true}, {111, 100, 100, false}, {90, 100, 100, true}, {89, 100, 100, false},
		{100, 100, 0, true}, {101, 100, 0, false}, {99, 100, 0, false},
		{200, 100, 1000, true}, {201, 100, 1000, false}, {0, 100, 1000, true}, {0, 100, 999, false},
		{0, 0, 0, true}, {0, 0, 1000, true}, {1, 0, 1000, false}, {limit, 0, 1000, false},
		{limit, limit, 0, true}, {limit, limit, 1000, true}, {limit - 1, limit, 0, false}, {0, limit, 1000, true},
		{limit, limit / 2, 1000, true}, {limit, limit/2 - 1, 1000, false},
		{100, 100, -1, false}, {100, 100, 1001, false}, {100, 100, math.MaxInt, false}, {100, 100, math.MinInt, false},
		// Equal zeros are near by with every tolerance, but these are none.
		{0, 0, -1, false}, {0, 0, 1001, false}, {0, 0, math.MinInt, false}, {0, 0, math.MaxInt, false},
		{-1, 100, 1000, false}, {-100, -100, 0, false}, {limit + 1, limit + 1, 0, false},
	}
	for _, c := range cases {
		if got := impl.NearBy(c.a, c.b, c.tol); got != c.want {
			t.Errorf("NearBy(%d, %d, %d) = %v", c.a, c.b, c.tol, got)
		}
	}
}

func TestNearByIsExact(t *testing.T) {
	for _, a := range sizes() {
		for _, b := range sizes() {
			for _, tol := range []int{0, 1, 2, 100, 500, 999, 1000} {
				gap := product(a-b, 1000)
				want := gap.Abs(gap).Cmp(product(b, tol)) <= 0
				if got := impl.NearBy(a, b, tol); got != want {
					t.Errorf("NearBy(%d, %d, %d) = %v", a, b, tol, got)
				}
			}
		}
	}
}

func TestNearByRefuses(t *testing.T) {
	for _, x := range notSizes() {
		for _, tol := range []int{0, 1000} {
			if impl.NearBy(x, x, tol) || impl.NearBy(x, 1, tol) || impl.NearBy(1, x, tol) || impl.NearBy(limit, x, tol) {
				t.Errorf("NearBy accepts %d with %d", x, tol)
			}
		}
	}
}

func TestMilliText(t *testing.T) {
	cases := []struct {
		v    int
		text string
	}{
		{0, "0"}, {1250, "1.25"}, {-5, "-0.005"}, {2000, "2"}, {1, "0.001"}, {-1, "-0.001"}, {10, "0.01"}, {100, "0.1"},
		{999, "0.999"}, {1000, "1"}, {-1000, "-1"}, {1001, "1.001"}, {1010, "1.01"}, {1100, "1.1"}, {-1250, "-1.25"},
		{10000, "10"}, {-20030, "-20.03"}, {123456789, "123456.789"},
		{limit, "1000000"}, {limit - 1, "999999.999"}, {-limit, "-1000000"}, {-limit + 1, "-999999.999"},
		{limit + 1, ""}, {-limit - 1, ""}, {math.MaxInt, ""}, {math.MinInt, ""},
	}
	for _, c := range cases {
		if got := impl.MilliText(c.v); got != c.text {
			t.Errorf("MilliText(%d) = %q, want %q", c.v, got, c.text)
		}
	}
}

func checkReadsBack(t *testing.T, v int) {
	text := impl.MilliText(v)
	if got, ok := impl.ParseMilli(text); got != v || !ok {
		t.Errorf("ParseMilli(%q) = %d, %v, want %d", text, got, ok, v)
	}
	// A decimal number has just one exact value, whoever reads it.
	exact, ok := new(big.Rat).SetString(text)
	if !ok || exact.Cmp(big.NewRat(int64(v), 1000)) != 0 {
		t.Errorf("MilliText(%d) = %q", v, text)
	}
}

func TestNumbersAreReadAsTheyWereWritten(t *testing.T) {
	for v := -3000; v <= 3000; v++ {
		checkReadsBack(t, v)
	}
	for v := -limit; v <= limit; v += 99991 {
		checkReadsBack(t, v)
	}
	for i := 0; i <= 1000; i++ {
		checkReadsBack(t, limit-i)
		checkReadsBack(t, i-limit)
	}
}

func checkRefused(t *testing.T, text string) {
	if v, ok := impl.ParseMilli(text); v != 0 || ok {
		t.Errorf("ParseMilli(%q) = %d, %v", text, v, ok)
	}
}

func TestParseMilliRefuses(t *testing.T) {
	texts := []string{
		"1.250", "", "-", "--", ".", "-.", "-0", "-0.0", "-0.000", "0.0", "0.000", "00", "01", "-01", "00.5", "1.", "-1.", ".5", "-.5",
		"1.0", "1.10", "1.2500", "1.0001", "0.0005", "1.2345", "--1", "-+1", "+1", "+0", "1-", "1.-5", "1.+5", "1..5", "1.2.3", "1.5.",
		" 1", "1 ", "1\n", "\t1", "1 5", "1,5", "1_000", "1e3", "1E3", "0x1", "0b1", "1.2e1", "Inf", "NaN", "a", "1a", "1.a", "1.5a",
		"1000000.001", "-1000000.001", "1000001", "-1000001", "1000000.0", "9999999.999", "10000000",
		"4294968.296", "9223372036854775.807", "-9223372036854775.808", "18446744073709551.616", "18446744073709551616",
		"\x00", "1\x00", "\xff", "１", "1.５", "−1", "٣",
		strings.Repeat("0", 5000), strings.Repeat("9", 5000), "1." + strings.Repeat("0", 5000), strings.Repeat("-", 5000), "0." + strings.Repeat("9", 5000),
	}
	for _, text := range texts {
		checkRefused(t, text)
	}
}

// grammar says independently of the program what MilliText writes, but for "-0" and the limits.
var grammar = regexp.MustCompile(`^-?(0|[1-9][0-9]*)(\.[0-9]{0,2}[1-9])?$`)

func checkAgainstGrammar(t *testing.T, text string) {
	if !grammar.MatchString(text) || text == "-0" {
		checkRefused(t, text)
		return
	}
	exact, _ := new(big.Rat).SetString(text)
	exact.Mul(exact, big.NewRat(1000, 1))
	if exact.Num().CmpAbs(big.NewInt(limit)) > 0 {
		checkRefused(t, text)
		return
	}
	v, ok := impl.ParseMilli(text)
	if want := exact.Num().Int64(); !ok || int64(v) != want {
		t.Errorf("ParseMilli(%q) = %d, %v, want %d", text, v, ok, want)
	}
}

// The first length at which every part of a number can occur is six: "-10.05".
func TestAllShortTexts(t *testing.T) {
	texts := []string{""}
	for length := 0; length <= 6; length++ {
		var longer []string
		for _, text := range texts {
			checkAgainstGrammar(t, text)
			for _, next := range "-.+015" {
				longer = append(longer, text+string(next))
			}
		}
		texts = longer
	}
}

// A text that differs from a written one in a single byte is the likeliest to be read by mistake.
func TestTextsWithOneByteChanged(t *testing.T) {
	for _, v := range []int{0, -5, 1250, 2000, limit, limit - 1, -limit, -limit + 1, 123456789} {
		text := strconv.Itoa(v/1000) + ".5"
		for _, whole := range []string{text, impl.MilliText(v)} {
			for i := range len(whole) {
				for b := range 256 {
					checkAgainstGrammar(t, whole[:i]+string([]byte{byte(b)})+whole[i+1:])
					checkAgainstGrammar(t, whole[:i]+string([]byte{byte(b)})+whole[i:])
				}
				checkAgainstGrammar(t, whole[:i]+whole[i+1:])
			}
		}
	}
}
