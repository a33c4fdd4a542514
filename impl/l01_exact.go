package impl

import (
	"strconv"
	"strings"
)

const (
	MaxValue = 1000000000
	MaxList  = 300
)

const thousand = 1000

// value holds a value or a size. It has 64 bits because the product of two
// sizes, and a sum before it is clamped, must fit as well.
type value int64

// The limits are one MaxValue apart: a size is a value from leastSize on.
const (
	leastValue value = (iota - 1) * MaxValue
	leastSize
	mostValue
)

// CompareRatios returns these as they are numbered here, from -1 on.
const (
	ratioLess = iota - 1
	ratioSame
	ratioMore
	ratioBad
)

func (v value) isValue() bool { return leastValue <= v && v <= mostValue }

func (v value) isSize() bool { return leastSize <= v && v <= mostValue }

func (v value) isDivisor() bool { return leastSize < v && v <= mostValue }

func (v value) isTolerance() bool { return leastSize <= v && v <= thousand }

func (v value) cut() (value, bool) {
	c := min(max(v, leastValue), mostValue)
	return c, c != v
}

func (v value) text() string {
	if v < 0 {
		return "-" + (-v).text()
	}
	whole := strconv.FormatInt(int64(v/thousand), 10)
	rest := int64(v % thousand)
	if rest == 0 {
		return whole
	}
	// The added thousand keeps the zeros in front of a small rest; its own digit is cut off.
	digits := strconv.FormatInt(thousand+rest, 10)[1:]
	return whole + "." + strings.TrimRight(digits, "0")
}

// sumValues adds values from left to right. It clamps after each addition, so
// the result depends on the order.
func sumValues(list ...int) (value, bool) {
	var sum value
	clamped := false
	for _, x := range list {
		next, cut := (sum + value(x)).cut()
		sum = next
		clamped = clamped || cut
	}
	return sum, clamped
}

func allValues(list []int) bool {
	for _, x := range list {
		if !value(x).isValue() {
			return false
		}
	}
	return true
}

func CutValue(x int) (int, bool) {
	v, cut := value(x).cut()
	return int(v), cut
}

func AddValues(list []int) (int, bool) {
	if len(list) > MaxList || !allValues(list) {
		return 0, true
	}
	sum, clamped := sumValues(list...)
	return int(sum), clamped
}

func FloorDiv(a int, b int) int {
	if b < 1 {
		return 0
	}
	q := a / b
	if a%b < 0 {
		q--
	}
	return q
}

func CeilDiv(a int, b int) int {
	if b < 1 {
		return 0
	}
	q := a / b
	if a%b > 0 {
		q++
	}
	return q
}

func MulDiv(a int, b int, c int, up bool) (int, bool) {
	if !value(a).isSize() || !value(b).isSize() || !value(c).isDivisor() {
		return 0, false
	}
	result := FloorDiv(a*b, c)
	if up {
		result = CeilDiv(a*b, c)
	}
	if result > MaxValue {
		return MaxValue, false
	}
	return result, true
}

func CompareRatios(a int, b int, c int, d int) int {
	if !value(a).isSize() || !value(c).isSize() || !value(b).isDivisor() || !value(d).isDivisor() {
		return ratioBad
	}
	left, right := value(a)*value(d), value(c)*value(b)
	switch {
	case left < right:
		return ratioLess
	case left > right:
		return ratioMore
	}
	return ratioSame
}

func NearBy(a int, b int, tol int) bool {
	if !value(a).isSize() || !value(b).isSize() || !value(tol).isTolerance() {
		return false
	}
	gap := value(max(a, b) - min(a, b))
	return gap*thousand <= value(b)*value(tol)
}

func MeanOf(list []int) (int, bool) {
	sum, clamped := AddValues(list)
	if clamped || len(list) == 0 {
		return 0, false
	}
	return FloorDiv(sum, len(list)), true
}

func MilliText(v int) string {
	if !value(v).isValue() {
		return ""
	}
	return value(v).text()
}

// ParseMilli only reads a candidate; that its MilliText is text again refuses
// every other spelling of the same number.
func ParseMilli(text string) (int, bool) {
	digits, negative := strings.CutPrefix(text, "-")
	whole, rest, _ := strings.Cut(digits, ".")
	thousandths := (rest + "000")[:3]
	number, err := strconv.ParseUint(whole+thousandths, 10, 32)
	if err != nil {
		return 0, false
	}
	v := int(number)
	if negative {
		v = -v
	}
	if MilliText(v) != text {
		return 0, false
	}
	return v, true
}
