package tests

import (
	"fmt"
	"math"
	"math/big"
	"regexp"
	"slices"
	"strconv"
	"strings"
	"testing"

	"loop.example/g00808/impl"
)

const (
	longScrape = 3000
	manyLines  = 100
	lastTick   = 1000000000
)

func TestLimitsOfSamples(t *testing.T) {
	if impl.MaxScrape != longScrape || impl.MaxLines != manyLines || impl.MaxTick != lastTick {
		t.Errorf("limits %d, %d and %d", impl.MaxScrape, impl.MaxLines, impl.MaxTick)
	}
}

func goodNames() []string {
	return []string{"a", "z", "0", "9", "m5", "p1", "cpu", "00", "0a", "abcdefghijkl", "mnopqrstuvwx", "yz0123456789", "999999999999"}
}

func badNames() []string {
	return []string{
		"", "abcdefghijklm", "0123456789abc", strings.Repeat("a", 5000), "A", "Z", "pOd", "a b", " a", "a ", "a\n", "\na", "\ta", "a-b", "a_b", "a.b", "-1", "a;", "#a",
		"\x00", "a\x00", "`", "{", "/", ":", "\xff", "a\xff", "\x80a", "\xc3", "é", "aé", "１", "ａ", "\ufffd", "٣", "ß", "\xe2\x82", "\U0001F600",
	}
}

func TestNameOk(t *testing.T) {
	for _, name := range goodNames() {
		if !impl.NameOk(name) {
			t.Errorf("NameOk(%q) is false", name)
		}
	}
	for _, name := range badNames() {
		if impl.NameOk(name) {
			t.Errorf("NameOk(%q) is true", name)
		}
	}
	for length := range 30 {
		if got := impl.NameOk(strings.Repeat("x", length)); got != (1 <= length && length <= 12) {
			t.Errorf("NameOk of %d bytes is %v", length, got)
		}
	}
}

func TestNameOkOfEveryByte(t *testing.T) {
	for b := range 256 {
		want := strings.IndexByte("abcdefghijklmnopqrstuvwxyz0123456789", byte(b)) >= 0
		one := string([]byte{byte(b)})
		for _, name := range []string{one, one + "a", "a" + one, "a" + one + "0", "abcdefghijk" + one, one + "23456789abc"} {
			if got := impl.NameOk(name); got != want {
				t.Errorf("NameOk(%q) = %v", name, got)
			}
		}
	}
}

func goodSizes() []int {
	return []int{0, 1, 10, 100, 999, 1000, 1001, 1250, 2000, 123456789, limit - 1, limit}
}

func goodTicks() []int { return []int{0, 1, 9, 10, 30, 1000, 123456789, lastTick - 1, lastTick} }

func notTicks() []int {
	return []int{math.MinInt, -lastTick, -1, lastTick + 1, 1<<32 + 1, math.MaxInt}
}

// goodSamples has every limit beside ordinary fields.
func goodSamples() []impl.Sample {
	var list []impl.Sample
	for _, name := range goodNames() {
		list = append(list, impl.Sample{Pod: name, Metric: "cpu", Value: 5, At: 7}, impl.Sample{Pod: "p1", Metric: name, Value: 5, At: 7})
	}
	for _, size := range goodSizes() {
		for _, at := range goodTicks() {
			list = append(list, impl.Sample{Pod: "p1", Metric: "cpu", Value: size, At: at})
		}
	}
	return append(list, impl.Sample{Pod: "abcdefghijkl", Metric: "mnopqrstuvwx", Value: limit - 1, At: lastTick})
}

// badSamples each have at least one field that is not valid.
func badSamples() []impl.Sample {
	list := []impl.Sample{{}, {Pod: "p1"}, {Metric: "cpu"}, {Value: 1, At: 1}}
	for _, name := range badNames() {
		list = append(list, impl.Sample{Pod: name, Metric: "cpu", Value: 5, At: 7}, impl.Sample{Pod: "p1", Metric: name, Value: 5, At: 7})
	}
	for _, size := range notSizes() {
		list = append(list, impl.Sample{Pod: "p1", Metric: "cpu", Value: size, At: 7})
	}
	for _, at := range notTicks() {
		list = append(list, impl.Sample{Pod: "p1", Metric: "cpu", Value: 5, At: at})
	}
	return list
}

func TestSampleOk(t *testing.T) {
	for _, s := range goodSamples() {
		if !impl.SampleOk(s) {
			t.Errorf("SampleOk(%+v) is false", s)
		}
	}
	for _, s := range badSamples() {
		if impl.SampleOk(s) {
			t.Errorf("SampleOk(%+v) is true", s)
		}
	}
}

func TestSampleLine(t *testing.T) {
	cases := []struct {
		s    impl.Sample
		line string
	}{
		{impl.Sample{Pod: "p1", Metric: "cpu", Value: 1250, At: 30}, "p1 cpu 1.25 30"},
		{impl.Sample{Pod: "a", Metric: "0", Value: 0, At: 0}, "a 0 0 0"},
		{impl.Sample{Pod: "cpu", Metric: "p1", Value: 1, At: 1}, "cpu p1 0.001 1"},
		{impl.Sample{Pod: "p1", Metric: "cpu", Value: 2000, At: 100}, "p1 cpu 2 100"},
		{impl.Sample{Pod: "p1", Metric: "cpu", Value: limit, At: lastTick}, "p1 cpu 1000000 1000000000"},
		{impl.Sample{Pod: "abcdefghijkl", Metric: "mnopqrstuvwx", Value: limit - 1, At: lastTick - 1}, "abcdefghijkl mnopqrstuvwx 999999.999 999999999"},
	}
	for _, c := range cases {
		if got := impl.SampleLine(c.s); got != c.line {
			t.Errorf("SampleLine(%+v) = %q, want %q", c.s, got, c.line)
		}
	}
	for _, s := range badSamples() {
		if got := impl.SampleLine(s); got != "" {
			t.Errorf("SampleLine(%+v) = %q", s, got)
		}
	}
}

func TestSamplesAreReadAsTheyWereWritten(t *testing.T) {
	for _, s := range goodSamples() {
		line := impl.SampleLine(s)
		if got, ok := impl.ParseSample(line); !ok || got != s {
			t.Errorf("ParseSample(%q) = %+v, %v, want %+v", line, got, ok, s)
		}
	}
}

// lineGrammar says independently of the program what SampleLine writes, but for the limits of the numbers.
var lineGrammar = regexp.MustCompile(`\A([a-z0-9]{1,12}) ([a-z0-9]{1,12}) ((?:0|[1-9][0-9]*)(?:\.[0-9]{0,2}[1-9])?) (0|[1-9][0-9]*)\z`)

// exactUpTo reads a decimal number times unit, and refuses one above most.
func exactUpTo(text string, unit int64, most int64) (int, bool) {
	exact, ok := new(big.Rat).SetString(text)
	if !ok {
		return 0, false
	}
	exact.Mul(exact, big.NewRat(unit, 1))
	if exact.Cmp(big.NewRat(most, 1)) > 0 {
		return 0, false
	}
	return int(exact.Num().Int64()), true
}

func sampleByGrammar(line string) (impl.Sample, bool) {
	m := lineGrammar.FindStringSubmatch(line)
	if m == nil {
		return impl.Sample{}, false
	}
	size, ok := exactUpTo(m[3], 1000, limit)
	at, ok2 := exactUpTo(m[4], 1, lastTick)
	if !ok || !ok2 {
		return impl.Sample{}, false
	}
	return impl.Sample{Pod: m[1], Metric: m[2], Value: size, At: at}, true
}

func checkLine(t *testing.T, line string) {
	want, written := sampleByGrammar(line)
	if got, ok := impl.ParseSample(line); got != want || ok != written {
		t.Errorf("ParseSample(%q) = %+v, %v, want %+v, %v", line, got, ok, want, written)
	}
}

func checkNoSample(t *testing.T, line string) {
	if got, ok := impl.ParseSample(line); ok || got != (impl.Sample{}) {
		t.Errorf("ParseSample(%q) = %+v, %v", line, got, ok)
	}
}

func TestParseSampleRefuses(t *testing.T) {
	lines := []string{
		"", " ", "  ", "   ", "    ", "bad", "p1", "p1 cpu", "p1 cpu 1", "p1 cpu 1.25 30 ", " p1 cpu 1.25 30", "p1 cpu 1.25 30 1", "p1 cpu 1.25 30 x",
		"p1  cpu 1.25 30", "p1 cpu  1.25 30", "p1 cpu 1.25  30", "p1\tcpu\t1.25\t30", "p1 cpu 1.25\t30", "p1 cpu 1.25 30\n", "p1 cpu 1.25 30\r", "\np1 cpu 1.25 30", "p1 cpu 1.25 30\x00",
		"p1 cpu 1.250 3", "p1 cpu 1.0 3", "p1 cpu 01 3", "p1 cpu .5 3", "p1 cpu 1. 3", "p1 cpu +1 3", "p1 cpu -1 3", "p1 cpu -0 3", "p1 cpu -0.001 3", "p1 cpu 0.0005 3", "p1 cpu 1e3 3", "p1 cpu 0x1 3", "p1 cpu 1,5 3",
		"p1 cpu 1000000.001 3", "p1 cpu 1000001 3", "p1 cpu 18446744073709551617 3", "p1 cpu 99999999999999999999999 3",
		"p1 cpu 1 03", "p1 cpu 1 00", "p1 cpu 1 +3", "p1 cpu 1 -3", "p1 cpu 1 -0", "p1 cpu 1 3.0", "p1 cpu 1 0.5", "p1 cpu 1 1e3", "p1 cpu 1 0x3", "p1 cpu 1 1_0", "p1 cpu 1 a", "p1 cpu 1 ３",
		"p1 cpu 1 1000000001", "p1 cpu 1 4294967299", "p1 cpu 1 9223372036854775808", "p1 cpu 1 18446744073709551619", "p1 cpu 1 -9223372036854775808", "p1 cpu 1 99999999999999999999999",
		" cpu 1 3", "p1  1 3", "p1 cpu  3", "p1 cpu 1 ", "P1 cpu 1 3", "p1 Cpu 1 3", "p-1 cpu 1 3", "p1 c_u 1 3", "é cpu 1 3", "p1 \xff 1 3", "p\xff cpu 1 3",
		"abcdefghijklm cpu 1 3", "p1 abcdefghijklm 1 3", "# p1 cpu 1 3", "#", "p1;cpu;1;3", "p1 cpu 1 3;", "p1\u00a0cpu\u00a01\u00a03",
		strings.Repeat(" ", 5000), strings.Repeat("a", 5000), "p1 cpu 1 " + strings.Repeat("0", 5000), "p1 cpu 1 " + strings.Repeat("9", 5000),
	}
	for _, line := range lines {
		checkNoSample(t, line)
	}
	// An invalid sample has the empty line, but that is the line of no sample.
	for _, s := range badSamples() {
		checkNoSample(t, impl.SampleLine(s))
		checkNoSample(t, fmt.Sprintf("%s %s %s %d", s.Pod, s.Metric, impl.MilliText(s.Value), s.At))
	}
}

// Nine bytes are the shortest line whose value has a fractional part.
func TestAllShortLines(t *testing.T) {
	written := 0
	var extend func(line string, left int)
	extend = func(line string, left int) {
		if _, ok := sampleByGrammar(line); ok {
			written++
		}
		checkLine(t, line)
		if left == 0 {
			return
		}
		for _, next := range []string{"a", " ", "0", "1", "."} {
			extend(line+next, left-1)
		}
	}
	extend("a", 6)
	extend("a 0", 6)
	if written == 0 {
		t.Error("no line was a sample")
	}
}

// A line that differs from a written one in a single byte is the likeliest to be read by mistake.
func TestLinesWithOneByteChanged(t *testing.T) {
	lines := []string{"p1 cpu 1.25 30", "a 0 0 0", "p1 cpu 1000000 1000000000", "abcdefghijkl mnopqrstuvwx 999999.999 999999999", "0 0 10.001 10"}
	for _, line := range lines {
		for i := range len(line) {
			for b := range 256 {
				checkLine(t, line[:i]+string([]byte{byte(b)})+line[i+1:])
				checkLine(t, line[:i]+string([]byte{byte(b)})+line[i:])
			}
			checkLine(t, line[:i]+line[i+1:])
			checkLine(t, line[:i])
			checkLine(t, line[i:])
		}
		for b := range 256 {
			checkLine(t, line+string([]byte{byte(b)}))
		}
	}
}

func sampleAt(pod string, metric string, size int, at int) impl.Sample {
	return impl.Sample{Pod: pod, Metric: metric, Value: size, At: at}
}

type scrapeCase struct {
	name string
	text string
	list []impl.Sample
	bad  []int
}

func checkScrapes(t *testing.T, cases []scrapeCase) {
	for _, c := range cases {
		list, bad := impl.ParseScrape(c.text)
		if !slices.Equal(list, c.list) || !slices.Equal(bad, c.bad) {
			t.Errorf("ParseScrape of %s = %+v, %v, want %+v, %v", c.name, list, bad, c.list, c.bad)
		}
	}
}

func TestParseScrape(t *testing.T) {
	one := sampleAt("p1", "cpu", 1250, 30)
	two := sampleAt("p0", "cpu", 1000, 30)
	checkScrapes(t, []scrapeCase{
		{"the document's example", "p1 cpu 1.25 30\n# x\n\np1 cpu 2 30\nbad\np0 cpu 1 30", []impl.Sample{one, two}, []int{4, 5}},
		{"no text", "", nil, nil},
		{"a newline", "\n", nil, nil},
		{"newlines", "\n\n\n", nil, nil},
		{"one line", "p1 cpu 1.25 30", []impl.Sample{one}, nil},
		{"one line with its newline", "p1 cpu 1.25 30\n", []impl.Sample{one}, nil},
		{"an empty line at the end", "p1 cpu 1.25 30\n\n", []impl.Sample{one}, nil},
		{"an empty line at the beginning", "\np1 cpu 1.25 30", []impl.Sample{one}, nil},
		{"the order of the lines", "p1 cpu 1.25 30\np0 cpu 1 30\n", []impl.Sample{one, two}, nil},
		{"a bad last line", "p1 cpu 1.25 30\nbad", []impl.Sample{one}, []int{2}},
		{"a bad last line with its newline", "p1 cpu 1.25 30\nbad\n", []impl.Sample{one}, []int{2}},
		{"a last line that is cut off", "p0 cpu 1 30\np1 cpu 1.25", []impl.Sample{two}, []int{2}},
		{"only bad lines", "x\n\ny\n#\nz\n", nil, []int{1, 3, 5}},
		{"comments", "#\n##\n#p1 cpu 1 3\n# p1 cpu 1 3\n#\xff\np1 cpu 1.25 30", []impl.Sample{one}, nil},
		{"a comment without a newline", "p1 cpu 1.25 30\n#", []impl.Sample{one}, nil},
		{"a comment that does not begin its line", " #\np1 cpu 1.25 30 # x\np1 cpu 1.25 30", []impl.Sample{one}, []int{1, 2}},
		{"lines of blanks", " \n\t\n\r\n\x00\n", nil, []int{1, 2, 3, 4}},
		{"carriage returns", "p1 cpu 1.25 30\r\np0 cpu 1 30\r", nil, []int{1, 2}},
		{"other separators of lines", "p1 cpu 1.25 30\u2028p0 cpu 1 30\u0085", nil, []int{1}},
		{"bytes that are not UTF-8", "\xff\np1 cpu 1.25 30\n\xe2\x82\np0 cpu 1 30\n\xc3", []impl.Sample{one, two}, []int{1, 3, 5}},
		{"runes of several bytes", "é €\np1 cpu 1.25 30\n#é\np0 cpu 1 30\n\U0001F600", []impl.Sample{one, two}, []int{1, 5}},
	})
}

func TestParseScrapeOfRepeatedLines(t *testing.T) {
	one := sampleAt("p1", "cpu", 1250, 30)
	same := strings.Repeat("p1 cpu 1.25 30\n", 3)
	checkScrapes(t, []scrapeCase{
		{"equal lines", same, []impl.Sample{one}, []int{2, 3}},
		{"another value", "p1 cpu 1.25 30\np1 cpu 2 30\n", []impl.Sample{one}, []int{2}},
		{"another value in a last line without a newline", "p1 cpu 1.25 30\np1 cpu 0 30", []impl.Sample{one}, []int{2}},
		{"a value that is read again after another one", "p1 cpu 1.25 30\np1 cpu 2 30\np1 cpu 1.25 30", []impl.Sample{one}, []int{2, 3}},
		{"another tick", "p1 cpu 1.25 30\np1 cpu 1.25 31\n", []impl.Sample{one, sampleAt("p1", "cpu", 1250, 31)}, nil},
		{"an earlier tick", "p1 cpu 1.25 30\np1 cpu 1.25 29\n", []impl.Sample{one, sampleAt("p1", "cpu", 1250, 29)}, nil},
		{"another metric", "p1 cpu 1.25 30\np1 ram 1.25 30\n", []impl.Sample{one, sampleAt("p1", "ram", 1250, 30)}, nil},
		{"another pod", "p1 cpu 1.25 30\np2 cpu 1.25 30\n", []impl.Sample{one, sampleAt("p2", "cpu", 1250, 30)}, nil},
		{"pod and metric exchanged", "p1 cpu 1.25 30\ncpu p1 1.25 30\n", []impl.Sample{one, sampleAt("cpu", "p1", 1250, 30)}, nil},
		{"names that are the same when joined", "p1 cpu 1.25 30\np 1cpu 1.25 30\np1c pu 1.25 30", []impl.Sample{one, sampleAt("p", "1cpu", 1250, 30), sampleAt("p1c", "pu", 1250, 30)}, nil},
		{"a bad line first", "p1 cpu 1.250 30\np1 cpu 1.25 30\n", []impl.Sample{one}, []int{1}},
		{"a comment first", "#p1 cpu 2 30\np1 cpu 1.25 30\n", []impl.Sample{one}, nil},
		{"a repeated line far behind", "p1 cpu 1.25 30\n" + strings.Repeat("\n", 50) + "p1 cpu 1.25 30", []impl.Sample{one}, []int{52}},
	})
}

// numbered are n samples and the text of their lines.
func numbered(n int) ([]impl.Sample, string) {
	var list []impl.Sample
	var text strings.Builder
	for i := range n {
		list = append(list, sampleAt("p"+strconv.Itoa(i), "cpu", 1000, i))
		fmt.Fprintf(&text, "p%d cpu 1 %d\n", i, i)
	}
	return list, text.String()
}

func TestParseScrapeAtManyLines(t *testing.T) {
	most, text := numbered(manyLines)
	_, over := numbered(manyLines + 1)
	fewer, short := numbered(manyLines - 1)
	last := sampleAt("x", "y", 1000, 1)
	hundred := make([]int, manyLines)
	for i := range hundred {
		hundred[i] = i + 1
	}
	checkScrapes(t, []scrapeCase{
		{"MaxLines samples", text, most, nil},
		{"MaxLines samples without the last newline", strings.TrimSuffix(text, "\n"), most, nil},
		{"MaxLines + 1 samples", over, nil, []int{0}},
		{"MaxLines + 1 samples without the last newline", strings.TrimSuffix(over, "\n"), nil, []int{0}},
		{"MaxLines samples and an empty line", text + "\n", nil, []int{0}},
		{"MaxLines samples and a comment", text + "#", nil, []int{0}},
		{"MaxLines samples and a byte", text + "x", nil, []int{0}},
		{"MaxLines samples after an empty line", "\n" + text, nil, []int{0}},
		{"MaxLines lines, the last one without a newline", short + "x y 1 1", append(fewer, last), nil},
		{"MaxLines lines, the last one bad", short + "x y 1", fewer, []int{manyLines}},
		{"MaxLines bad lines", strings.Repeat("x\n", manyLines), nil, hundred},
		{"MaxLines + 1 bad lines", strings.Repeat("x\n", manyLines+1), nil, []int{0}},
		{"MaxLines empty lines", strings.Repeat("\n", manyLines), nil, nil},
		{"MaxLines + 1 empty lines", strings.Repeat("\n", manyLines+1), nil, []int{0}},
		{"MaxLines comments", strings.Repeat("#\n", manyLines), nil, nil},
		{"MaxLines + 1 comments", strings.Repeat("#\n", manyLines) + "#", nil, []int{0}},
	})
}

func TestParseScrapeAtLongTexts(t *testing.T) {
	line := "p1 cpu 1.25 30\n"
	list := []impl.Sample{sampleAt("p1", "cpu", 1250, 30)}
	room := longScrape - len(line)
	checkScrapes(t, []scrapeCase{
		{"MaxScrape bytes", line + strings.Repeat("x", room), list, []int{2}},
		{"MaxScrape bytes with the last newline", line + strings.Repeat("x", room-1) + "\n", list, []int{2}},
		{"MaxScrape bytes of a comment", line + strings.Repeat("#", room), list, nil},
		{"MaxScrape + 1 bytes", line + strings.Repeat("x", room+1), nil, []int{0}},
		{"MaxScrape + 1 bytes with the last newline", line + strings.Repeat("x", room) + "\n", nil, []int{0}},
		{"MaxScrape + 1 bytes of a comment", line + strings.Repeat("#", room+1), nil, []int{0}},
		{"MaxScrape bytes of one line", strings.Repeat("x", longScrape), nil, []int{1}},
		{"MaxScrape + 1 bytes of one line", strings.Repeat("x", longScrape+1), nil, []int{0}},
		{"MaxScrape bytes in fewer runes", strings.Repeat("€", longScrape/3), nil, []int{1}},
		{"more bytes than MaxScrape in fewer runes", strings.Repeat("€", longScrape/3) + "x", nil, []int{0}},
		{"MaxScrape newlines", strings.Repeat("\n", longScrape), nil, []int{0}},
		{"many bytes and lines", strings.Repeat(line, 10000), nil, []int{0}},
	})
}

// scrapeByRule does what the document says with the simplest means.
func scrapeByRule(text string) ([]impl.Sample, []int) {
	lines := strings.Split(text, "\n")
	if lines[len(lines)-1] == "" {
		lines = lines[:len(lines)-1]
	}
	seen := map[string]bool{}
	var list []impl.Sample
	var bad []int
	for i, line := range lines {
		if line == "" || strings.HasPrefix(line, "#") {
			continue
		}
		s, ok := sampleByGrammar(line)
		key := fmt.Sprintf("%q %q %d", s.Pod, s.Metric, s.At)
		if !ok || seen[key] {
			bad = append(bad, i+1)
			continue
		}
		seen[key] = true
		list = append(list, s)
	}
	return list, bad
}

func TestScrapesOfAllKindsOfLines(t *testing.T) {
	kinds := []string{"", "#", "# a b 1 0", "bad", "a b 1 0", "a b 2 0", "a b 1 1", "a c 1 0", "b b 0.5 0", "a b 1.0 0", " "}
	var extend func(text string, left int)
	extend = func(text string, left int) {
		for _, whole := range []string{text, strings.TrimSuffix(text, "\n")} {
			list, bad := impl.ParseScrape(whole)
			wantList, wantBad := scrapeByRule(whole)
			if !slices.Equal(list, wantList) || !slices.Equal(bad, wantBad) {
				t.Errorf("ParseScrape(%q) = %+v, %v, want %+v, %v", whole, list, bad, wantList, wantBad)
			}
		}
		if left == 0 {
			return
		}
		for _, kind := range kinds {
			extend(text+kind+"\n", left-1)
		}
	}
	extend("", 4)
}

func TestPrintScrape(t *testing.T) {
	one := sampleAt("p1", "cpu", 1250, 30)
	two := sampleAt("p0", "cpu", 1000, 30)
	most, text := numbered(manyLines)
	over, _ := numbered(manyLines + 1)
	widest := sampleAt("abcdefghijkl", "mnopqrstuvwx", limit-1, lastTick)
	cases := []struct {
		name string
		list []impl.Sample
		text string
		ok   bool
	}{
		{"nil", nil, "", true},
		{"an empty list", []impl.Sample{}, "", true},
		{"one sample", []impl.Sample{one}, "p1 cpu 1.25 30\n", true},
		{"the order of the list", []impl.Sample{one, two}, "p1 cpu 1.25 30\np0 cpu 1 30\n", true},
		{"equal samples", []impl.Sample{one, one}, "p1 cpu 1.25 30\np1 cpu 1.25 30\n", true},
		{"MaxLines samples", most, text, true},
		{"MaxLines + 1 samples", over, "", false},
		{"MaxLines + 1 samples, one of them invalid", append([]impl.Sample{{}}, most...), "", false},
		{"MaxList samples", slices.Repeat([]impl.Sample{one}, longList), "", false},
		{"MaxList + 1 samples", slices.Repeat([]impl.Sample{one}, longList+1), "", false},
		// The document limits the number of samples, not the length of the text.
		{"more bytes than MaxScrape", slices.Repeat([]impl.Sample{widest}, manyLines), strings.Repeat("abcdefghijkl mnopqrstuvwx 999999.999 1000000000\n", manyLines), true},
	}
	for _, c := range cases {
		if got, ok := impl.PrintScrape(c.list); got != c.text || ok != c.ok {
			t.Errorf("PrintScrape of %s = %q, %v, want %q, %v", c.name, got, ok, c.text, c.ok)
		}
	}
}

func TestPrintScrapeRefusesInvalidSamples(t *testing.T) {
	good, _ := numbered(2)
	for _, s := range badSamples() {
		for _, list := range [][]impl.Sample{{s}, {s, good[0], good[1]}, {good[0], s, good[1]}, {good[0], good[1], s}} {
			if got, ok := impl.PrintScrape(list); got != "" || ok {
				t.Errorf("PrintScrape of a list with %+v = %q, %v", s, got, ok)
			}
		}
	}
}

func TestScrapesAreReadAsTheyWereWritten(t *testing.T) {
	var list []impl.Sample
	for _, s := range goodSamples() {
		list = append(list, s)
		if len(list) == 20 {
			checkScrapeReadsBack(t, list)
			list = nil
		}
	}
	checkScrapeReadsBack(t, list)
	most, _ := numbered(manyLines)
	checkScrapeReadsBack(t, most)
	checkScrapeReadsBack(t, nil)
}

func checkScrapeReadsBack(t *testing.T, list []impl.Sample) {
	type key struct {
		pod, metric string
		at          int
	}
	seen := map[key]bool{}
	var want []impl.Sample
	var repeated []int
	for i, s := range list {
		if seen[key{s.Pod, s.Metric, s.At}] {
			repeated = append(repeated, i+1)
			continue
		}
		seen[key{s.Pod, s.Metric, s.At}] = true
		want = append(want, s)
	}
	text, ok := impl.PrintScrape(list)
	if got, bad := impl.ParseScrape(text); !ok || !slices.Equal(got, want) || !slices.Equal(bad, repeated) {
		t.Errorf("ParseScrape(%q) = %+v, %v, want %+v, %v", text, got, bad, want, repeated)
	}
}

func TestSortSamples(t *testing.T) {
	cases := []struct {
		name       string
		list, want []impl.Sample
	}{
		{"nil", nil, nil},
		{"an empty list", []impl.Sample{}, nil},
		{"pods", []impl.Sample{{Pod: "p2"}, {Pod: "p10"}, {Pod: "p1"}, {Pod: "p"}, {Pod: "q"}, {Pod: "9"}}, []impl.Sample{{Pod: "9"}, {Pod: "p"}, {Pod: "p1"}, {Pod: "p10"}, {Pod: "p2"}, {Pod: "q"}}},
		{"metrics", []impl.Sample{{Metric: "ram"}, {Metric: "cpu2"}, {Metric: "cpu"}}, []impl.Sample{{Metric: "cpu"}, {Metric: "cpu2"}, {Metric: "ram"}}},
		{"ticks", []impl.Sample{{At: 10}, {At: 9}, {At: 100}, {At: 0}}, []impl.Sample{{At: 0}, {At: 9}, {At: 10}, {At: 100}}},
		{"all three", []impl.Sample{sampleAt("b", "a", 1, 1), sampleAt("a", "b", 2, 2), sampleAt("a", "b", 3, 1), sampleAt("a", "a", 4, 9)}, []impl.Sample{sampleAt("a", "a", 4, 9), sampleAt("a", "b", 3, 1), sampleAt("a", "b", 2, 2), sampleAt("b", "a", 1, 1)}},
		{"names that are the same when joined", []impl.Sample{sampleAt("ab", "a", 0, 0), sampleAt("a", "c", 0, 0)}, []impl.Sample{sampleAt("a", "c", 0, 0), sampleAt("ab", "a", 0, 0)}},
		{"equal ones", []impl.Sample{sampleAt("b", "a", 3, 1), sampleAt("a", "a", 9, 1), sampleAt("b", "a", 1, 1), sampleAt("a", "a", 5, 1), sampleAt("b", "a", 2, 1)}, []impl.Sample{sampleAt("a", "a", 9, 1), sampleAt("a", "a", 5, 1), sampleAt("b", "a", 3, 1), sampleAt("b", "a", 1, 1), sampleAt("b", "a", 2, 1)}},
		{"invalid ones", []impl.Sample{{Pod: "\xff"}, {Pod: "é"}, {Pod: "a"}, {Pod: "A"}, {Pod: "", At: math.MaxInt}, {Pod: "", At: math.MinInt}, {Pod: "", At: -1}}, []impl.Sample{{Pod: "", At: math.MinInt}, {Pod: "", At: -1}, {Pod: "", At: math.MaxInt}, {Pod: "A"}, {Pod: "a"}, {Pod: "é"}, {Pod: "\xff"}}},
	}
	for _, c := range cases {
		before := slices.Clone(c.list)
		if got := impl.SortSamples(c.list); !slices.Equal(got, c.want) {
			t.Errorf("SortSamples of %s = %+v", c.name, got)
		}
		if !slices.Equal(c.list, before) {
			t.Errorf("SortSamples of %s changed its argument", c.name)
		}
	}
}

// mixed are n samples with many equal ones, told apart by their Value, which numbers them in order.
func mixed(n int) []impl.Sample {
	var list []impl.Sample
	for i := range n {
		list = append(list, sampleAt("p"+strconv.Itoa(i*7%5), "m"+strconv.Itoa(i*11%3), i, i*13%4))
	}
	return list
}

func TestSortingSortedSamplesChangesNothing(t *testing.T) {
	for _, n := range []int{0, 1, 2, 3, 13, 50, manyLines, manyLines + 1, longList - 1, longList} {
		list := mixed(n)
		sorted := impl.SortSamples(list)
		if len(sorted) != n {
			t.Fatalf("SortSamples of %d samples has %d", n, len(sorted))
		}
		for i := 1; i < n; i++ {
			a, b := sorted[i-1], sorted[i]
			before := fmt.Sprintf("%s %s %d %9d", a.Pod, a.Metric, a.At, a.Value)
			if after := fmt.Sprintf("%s %s %d %9d", b.Pod, b.Metric, b.At, b.Value); before >= after {
				t.Errorf("of %d samples %q precedes %q", n, before, after)
			}
		}
		if again := impl.SortSamples(sorted); !slices.Equal(again, sorted) {
			t.Errorf("sorting %d sorted samples changed them", n)
		}
	}
}

func TestSortedSamplesAreNewMemory(t *testing.T) {
	list := mixed(10)
	before := slices.Clone(list)
	sorted := impl.SortSamples(list)
	again := impl.SortSamples(sorted)
	want := slices.Clone(sorted)
	clear(again)
	if !slices.Equal(sorted, want) {
		t.Error("SortSamples shares the memory of its sorted argument")
	}
	clear(sorted)
	if !slices.Equal(list, before) {
		t.Error("SortSamples shares the memory of its argument")
	}
}

func TestListsThatAreTooLong(t *testing.T) {
	list := mixed(longList + 1)
	if got := impl.SortSamples(list); got != nil {
		t.Errorf("SortSamples of MaxList + 1 samples has %d", len(got))
	}
	if got := impl.PodsIn(list); got != nil {
		t.Errorf("PodsIn of MaxList + 1 samples is %q", got)
	}
	if got := impl.PodsIn(list[:longList]); !slices.Equal(got, []string{"p0", "p1", "p2", "p3", "p4"}) {
		t.Errorf("PodsIn of MaxList samples is %q", got)
	}
}

func TestPodsIn(t *testing.T) {
	cases := []struct{ pods, want []string }{
		{nil, nil},
		{[]string{"p1"}, []string{"p1"}},
		{[]string{"p2", "p1"}, []string{"p1", "p2"}},
		{[]string{"p1", "p1", "p1"}, []string{"p1"}},
		{[]string{"b", "a", "b", "c", "a"}, []string{"a", "b", "c"}},
		{[]string{"p2", "p10", "p", "9", "p1"}, []string{"9", "p", "p1", "p10", "p2"}},
		{[]string{"\xff", "é", "a", "", "A", "", "\xff"}, []string{"", "A", "a", "é", "\xff"}},
	}
	for _, c := range cases {
		var list []impl.Sample
		for i, pod := range c.pods {
			list = append(list, impl.Sample{Pod: pod, Metric: "m" + strconv.Itoa(i), At: -i})
		}
		before := slices.Clone(list)
		if got := impl.PodsIn(list); !slices.Equal(got, c.want) {
			t.Errorf("PodsIn of %q = %q, want %q", c.pods, got, c.want)
		}
		if !slices.Equal(list, before) {
			t.Errorf("PodsIn of %q changed its argument", c.pods)
		}
	}
	list, _ := numbered(longList)
	if got := impl.PodsIn(list); len(got) != longList || !slices.IsSorted(got) {
		t.Errorf("PodsIn of MaxList pods = %q", got)
	}
}

func sizesOfCPU(sizes []int) []impl.Sample {
	var list []impl.Sample
	for i, size := range sizes {
		list = append(list, sampleAt("p"+strconv.Itoa(i), "cpu", size, 30))
	}
	return list
}

// The sum is that of AddValues, whose cases are in the tests of chapter 1.
func TestSumOfMetricIsAddValues(t *testing.T) {
	for _, sizes := range [][]int{
		nil, {1}, {1250, 1000}, {limit - 1, 1}, {limit, 1}, {limit, 1, -1}, {limit, -1}, {-5}, {-limit, -1}, {limit + 1}, {-limit - 1}, {limit + 1, -1},
		{math.MaxInt}, {math.MinInt}, {math.MaxInt, math.MinInt}, filled(manyLines, 1), filled(manyLines+1, 1), filled(longList, 3), filled(longList, limit), filled(longList+1, 1), filled(longList+1, 0),
	} {
		sum, cut := impl.AddValues(sizes)
		list := sizesOfCPU(sizes)
		before := slices.Clone(list)
		if got, flag := impl.SumOfMetric(list, "cpu", 30); got != sum || flag != cut {
			t.Errorf("SumOfMetric of %v = %d, %v, want %d, %v", sizes, got, flag, sum, cut)
		}
		if !slices.Equal(list, before) {
			t.Errorf("SumOfMetric of %v changed its argument", sizes)
		}
		for _, metric := range []string{"", "cp", "cpu2", "CPU", "ram"} {
			if got, flag := impl.SumOfMetric(list, metric, 30); got != 0 || flag {
				t.Errorf("SumOfMetric of %v and %q = %d, %v", sizes, metric, got, flag)
			}
		}
		for _, at := range []int{math.MinInt, -30, 29, 31, 1<<32 + 30, math.MaxInt} {
			if got, flag := impl.SumOfMetric(list, "cpu", at); got != 0 || flag {
				t.Errorf("SumOfMetric of %v at %d = %d, %v", sizes, at, got, flag)
			}
		}
	}
}

func TestSumOfMetric(t *testing.T) {
	list := []impl.Sample{
		sampleAt("p1", "cpu", 1250, 30), sampleAt("p0", "cpu", 1000, 30), sampleAt("p1", "ram", limit, 30), sampleAt("p1", "ram", 7, 31),
		sampleAt("p1", "cpu", 64, 31), sampleAt("p1", "cpu", 1250, 30), sampleAt("p1", "bad", limit+1, 30), sampleAt("", "", 11, -1), sampleAt("", "", 12, -1),
	}
	cases := []struct {
		metric  string
		at, sum int
		cut     bool
	}{
		{"cpu", 30, 3500, false}, {"cpu", 31, 64, false}, {"ram", 30, limit, false}, {"ram", 31, 7, false},
		{"bad", 30, 0, true}, {"bad", 31, 0, false}, {"", -1, 23, false}, {"", 30, 0, false}, {"p1", 30, 0, false},
	}
	for _, c := range cases {
		if sum, cut := impl.SumOfMetric(list, c.metric, c.at); sum != c.sum || cut != c.cut {
			t.Errorf("SumOfMetric(%q, %d) = %d, %v, want %d, %v", c.metric, c.at, sum, cut, c.sum, c.cut)
		}
	}
	// The chapter limits the values that are added, not the samples beside them.
	long := append(slices.Repeat([]impl.Sample{sampleAt("p1", "ram", 1, 30)}, longList+1), list...)
	if sum, cut := impl.SumOfMetric(long, "cpu", 30); sum != 3500 || cut {
		t.Errorf("SumOfMetric beside many samples = %d, %v", sum, cut)
	}
}
