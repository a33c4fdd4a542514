package tests

import (
	"fmt"
	"math/big"
	"regexp"
	"slices"
	"strings"
	"testing"

	"loop.example/g00808/impl"
)

const manyGoals = 3

const defaultText = "rules 5 30 10\ngoal cpu 1 100\ncount 1 10\nup 0 0 1:100:15\ndown 0 20 1:50:30\n"

func TestLimitOfGoals(t *testing.T) {
	if impl.MaxGoals != manyGoals {
		t.Errorf("limit %d", impl.MaxGoals)
	}
}

func goalsOf(metrics ...string) []impl.Goal {
	var goals []impl.Goal
	for i, metric := range metrics {
		goals = append(goals, impl.Goal{Metric: metric, Target: 1000 + i, Tol: 100 + i})
	}
	return goals
}

func setupOf(goals ...impl.Goal) impl.Setup {
	return impl.Setup{Rules: usual(), Goals: goals, Behave: usualBehave()}
}

func goodGoalLists() [][]impl.Goal {
	list := [][]impl.Goal{goalsOf("cpu"), goalsOf("cpu", "ram"), goalsOf("ram", "cpu"), goalsOf("cpu", "ram", "io"), goalsOf("c", "b", "a"), goalsOf("0", "00", "000"), goalsOf("goal", "up", "down"), goalsOf("rules", "count", "1"), {cpu(1000, 100), {Metric: "ram", Target: 1000, Tol: 100}}}
	for _, g := range goodGoals() {
		list = append(list, []impl.Goal{g}, append(goalsOf("x1", "x2"), g), append([]impl.Goal{g}, goalsOf("x1", "x2")...))
	}
	return list
}

// badGoalLists each have one goal that is not valid, one Metric twice, no goal
// or too many goals.
func badGoalLists() [][]impl.Goal {
	list := [][]impl.Goal{
		nil, {}, goalsOf("cpu", "ram", "io", "net"), goalsOf("a", "b", "c", "d", "e"), slices.Repeat(goalsOf("cpu"), 1000),
		goalsOf("cpu", "cpu"), goalsOf("cpu", "cpu", "ram"), goalsOf("cpu", "ram", "cpu"), goalsOf("ram", "cpu", "cpu"), goalsOf("cpu", "cpu", "cpu"), {cpu(1000, 100), cpu(1000, 100)},
	}
	for _, g := range badGoals() {
		list = append(list, []impl.Goal{g}, append(goalsOf("x1"), g), append([]impl.Goal{g}, goalsOf("x1")...), append([]impl.Goal{g}, goalsOf("x1", "x2")...), append(goalsOf("x1", "x2"), g), append(append(goalsOf("x1"), g), goalsOf("x2")...))
	}
	return list
}

func goodSetups() []impl.Setup {
	list := []impl.Setup{impl.DefaultSetup(), {Goals: goalsOf("cpu")}}
	for _, goals := range goodGoalLists() {
		list = append(list, setupOf(goals...))
	}
	for _, r := range goodRules() {
		list = append(list, impl.Setup{Rules: r, Goals: goalsOf("cpu", "ram"), Behave: usualBehave()})
	}
	for _, b := range goodBehaves() {
		list = append(list, impl.Setup{Rules: usual(), Goals: goalsOf("cpu"), Behave: b})
	}
	return list
}

// badSetups each break one condition, but for the zero value.
func badSetups() []impl.Setup {
	list := []impl.Setup{{}}
	for _, goals := range badGoalLists() {
		list = append(list, setupOf(goals...))
	}
	for _, r := range badRules() {
		list = append(list, impl.Setup{Rules: r, Goals: goalsOf("cpu"), Behave: usualBehave()}, impl.Setup{Rules: r, Goals: goalsOf("cpu", "ram", "io"), Behave: usualBehave()})
	}
	for _, b := range badBehaves() {
		list = append(list, impl.Setup{Rules: usual(), Goals: goalsOf("cpu"), Behave: b})
	}
	return list
}

func TestSetupOk(t *testing.T) {
	for _, s := range goodSetups() {
		if !impl.SetupOk(s) {
			t.Errorf("SetupOk(%+v) is false", s)
		}
	}
	for _, s := range badSetups() {
		if impl.SetupOk(s) {
			t.Errorf("SetupOk(%+v) is true", s)
		}
	}
}

// shown is the same for a nil slice and an empty one.
func shown(x any) string { return fmt.Sprintf("%+v", x) }

func TestDefaultSetup(t *testing.T) {
	want := impl.Setup{
		Rules: impl.Rules{Delay: 5, Fresh: 30, Window: 10},
		Goals: []impl.Goal{{Metric: "cpu", Target: 1000, Tol: 100}},
		Behave: impl.Behave{
			Up:   impl.Side{Policies: []impl.Policy{{Kind: 1, Value: 100, Period: 15}}, Select: 0, Window: 0},
			Down: impl.Side{Policies: []impl.Policy{{Kind: 1, Value: 50, Period: 30}}, Select: 0, Window: 20},
			Min:  1, Max: 10,
		},
	}
	if got := impl.DefaultSetup(); shown(got) != shown(want) || !impl.SetupOk(got) {
		t.Errorf("DefaultSetup() = %+v, want %+v", got, want)
	}
}

// sideByRule and setupByRule write as the document says, also what is not valid.
func sideByRule(s impl.Side) string {
	text := fmt.Sprintf("%d %d", s.Select, s.Window)
	for _, p := range s.Policies {
		text += fmt.Sprintf(" %d:%d:%d", p.Kind, p.Value, p.Period)
	}
	return text
}

func milliByRule(v int) string {
	text := big.NewRat(int64(v), 1000).FloatString(3)
	return strings.TrimRight(strings.TrimRight(text, "0"), ".")
}

func setupByRule(s impl.Setup) string {
	text := fmt.Sprintf("rules %d %d %d\n", s.Rules.Delay, s.Rules.Fresh, s.Rules.Window)
	for _, g := range s.Goals {
		text += fmt.Sprintf("goal %s %s %d\n", g.Metric, milliByRule(g.Target), g.Tol)
	}
	text += fmt.Sprintf("count %d %d\n", s.Behave.Min, s.Behave.Max)
	return text + "up " + sideByRule(s.Behave.Up) + "\ndown " + sideByRule(s.Behave.Down) + "\n"
}

func TestSetupText(t *testing.T) {
	largest := impl.Setup{
		Rules:  impl.Rules{Delay: 1000, Fresh: 1000, Window: 1000},
		Goals:  []impl.Goal{{Metric: "zzzzzzzzzzzz", Target: longTarget, Tol: longTol}, {Metric: "0", Target: longTarget - 1}, {Metric: "abcdefghijkl", Target: 1, Tol: 1}},
		Behave: impl.Behave{Up: sideWith(1, longSpan, byPods(manyCount, longSpan), byPercent(manyCount, longSpan), byPods(1, 1)), Down: sideWith(2, 1, byPercent(1, 1), byPods(7, 20), byPercent(1, 1)), Min: manyCount, Max: manyCount},
	}
	cases := []struct {
		setup impl.Setup
		text  string
	}{
		{impl.DefaultSetup(), defaultText},
		{impl.Setup{Goals: goalsOf("cpu")}, "rules 0 0 0\ngoal cpu 1 100\ncount 0 0\nup 0 0\ndown 0 0\n"},
		{setupOf(goalsOf("ram", "cpu")...), "rules 5 30 10\ngoal ram 1 100\ngoal cpu 1.001 101\ncount 1 10\nup 0 0 0:2:10\ndown 0 20 1:50:10\n"},
		{largest, "rules 1000 1000 1000\ngoal zzzzzzzzzzzz 1000 1000\ngoal 0 999.999 0\ngoal abcdefghijkl 0.001 1\ncount 1000 1000\nup 1 1000 0:1000:1000 1:1000:1000 0:1:1\ndown 2 1 1:1:1 0:7:20 1:1:1\n"},
	}
	for _, c := range cases {
		if got, ok := impl.SetupText(c.setup); !ok || got != c.text {
			t.Errorf("SetupText(%+v) = %q, %v, want %q", c.setup, got, ok, c.text)
		}
		if got, ok := impl.ParseSetup(c.text); !ok || shown(got) != shown(c.setup) {
			t.Errorf("ParseSetup(%q) = %+v, %v", c.text, got, ok)
		}
	}
}

func TestSideText(t *testing.T) {
	cases := []struct {
		side impl.Side
		text string
	}{
		{sideWith(1, 5, byPods(2, 10)), "1 5 0:2:10"}, {impl.Side{}, "0 0"}, {sideWith(2, longSpan), "2 1000"}, {impl.Side{Policies: []impl.Policy{}, Select: 1}, "1 0"},
		{sideWith(0, 20, byPercent(50, 30)), "0 20 1:50:30"}, {sideWith(0, 0, byPods(1, 1), byPods(1, 1)), "0 0 0:1:1 0:1:1"}, {sideWith(2, 7, byPercent(manyCount, longSpan), byPods(2, 10), byPercent(1, 1)), "2 7 1:1000:1000 0:2:10 1:1:1"},
	}
	for _, c := range cases {
		if got := impl.SideText(c.side); got != c.text {
			t.Errorf("SideText(%+v) = %q, want %q", c.side, got, c.text)
		}
		if got, ok := impl.ParseSide(c.text); !ok || shown(got) != shown(c.side) {
			t.Errorf("ParseSide(%q) = %+v, %v", c.text, got, ok)
		}
	}
}

func TestSetupsAreReadAsTheyWereWritten(t *testing.T) {
	setups := map[string]bool{}
	texts := map[string]bool{}
	for _, s := range goodSetups() {
		text, ok := impl.SetupText(s)
		if !ok || text != setupByRule(s) {
			t.Errorf("SetupText(%+v) = %q, %v", s, text, ok)
		}
		if got, ok := impl.ParseSetup(text); !ok || shown(got) != shown(s) {
			t.Errorf("ParseSetup(%q) = %+v, %v", text, got, ok)
		}
		checkSetupText(t, text)
		setups[shown(s)], texts[text] = true, true
	}
	if len(texts) != len(setups) {
		t.Errorf("%d setups have %d texts", len(setups), len(texts))
	}
}

func TestSidesAreReadAsTheyWereWritten(t *testing.T) {
	sides := map[string]bool{}
	texts := map[string]bool{}
	for _, s := range goodSides() {
		text := impl.SideText(s)
		if text != sideByRule(s) {
			t.Errorf("SideText(%+v) = %q", s, text)
		}
		if got, ok := impl.ParseSide(text); !ok || shown(got) != shown(s) {
			t.Errorf("ParseSide(%q) = %+v, %v", text, got, ok)
		}
		checkSideText(t, text)
		sides[shown(s)], texts[text] = true, true
	}
	if len(texts) != len(sides) {
		t.Errorf("%d sides have %d texts", len(sides), len(texts))
	}
}

// Beside having no text, an invalid setup is not read if it is written well.
func TestInvalidSetupsHaveNoText(t *testing.T) {
	for _, s := range badSetups() {
		if got, ok := impl.SetupText(s); ok || got != "" {
			t.Errorf("SetupText(%+v) = %q, %v", s, got, ok)
		}
		checkNoSetup(t, setupByRule(s))
	}
	checkNoSetup(t, "")
}

func TestInvalidSidesHaveNoText(t *testing.T) {
	for _, s := range badSides() {
		if got := impl.SideText(s); got != "" {
			t.Errorf("SideText(%+v) = %q", s, got)
		}
		checkNoSide(t, sideByRule(s))
	}
	checkNoSide(t, "")
}

// These say independently of the program what is written, but for the limits of
// the numbers and for the goals.
var (
	sideGrammar   = regexp.MustCompile(`\A([0-2]) (0|[1-9][0-9]*)((?: [01]:[1-9][0-9]*:[1-9][0-9]*){0,3})\z`)
	policyGrammar = regexp.MustCompile(` ([01]):([0-9]+):([0-9]+)`)
	setupGrammar  = regexp.MustCompile(`\Arules (0|[1-9][0-9]*) (0|[1-9][0-9]*) (0|[1-9][0-9]*)\n((?:goal [^\n]*\n){1,3})count (0|[1-9][0-9]*) (0|[1-9][0-9]*)\nup ([^\n]*)\ndown ([^\n]*)\n\z`)
)

// upToThousand reads numbers that have the same limit in every place.
func upToThousand(texts ...string) ([]int, bool) {
	numbers := make([]int, len(texts))
	for i, text := range texts {
		n, ok := exactUpTo(text, 1, 1000)
		if !ok {
			return nil, false
		}
		numbers[i] = n
	}
	return numbers, true
}

func sideByGrammar(text string) (impl.Side, bool) {
	m := sideGrammar.FindStringSubmatch(text)
	if m == nil {
		return impl.Side{}, false
	}
	n, ok := upToThousand(m[1], m[2])
	if !ok {
		return impl.Side{}, false
	}
	s := impl.Side{Select: n[0], Window: n[1]}
	for _, p := range policyGrammar.FindAllStringSubmatch(m[3], -1) {
		n, ok := upToThousand(p[1:]...)
		if !ok {
			return impl.Side{}, false
		}
		s.Policies = append(s.Policies, impl.Policy{Kind: n[0], Value: n[1], Period: n[2]})
	}
	return s, true
}

func goalLinesByGrammar(text string) ([]impl.Goal, bool) {
	var goals []impl.Goal
	metrics := map[string]bool{}
	for line := range strings.Lines(text) {
		g, ok := goalByGrammar(strings.TrimSuffix(strings.TrimPrefix(line, "goal "), "\n"))
		if !ok || metrics[g.Metric] {
			return nil, false
		}
		metrics[g.Metric] = true
		goals = append(goals, g)
	}
	return goals, true
}

func setupByGrammar(text string) (impl.Setup, bool) {
	m := setupGrammar.FindStringSubmatch(text)
	if m == nil {
		return impl.Setup{}, false
	}
	n, ok := upToThousand(m[1], m[2], m[3], m[5], m[6])
	goals, ok2 := goalLinesByGrammar(m[4])
	up, ok3 := sideByGrammar(m[7])
	down, ok4 := sideByGrammar(m[8])
	if !ok || !ok2 || !ok3 || !ok4 || n[3] > n[4] {
		return impl.Setup{}, false
	}
	rules := impl.Rules{Delay: n[0], Fresh: n[1], Window: n[2]}
	return impl.Setup{Rules: rules, Goals: goals, Behave: impl.Behave{Up: up, Down: down, Min: n[3], Max: n[4]}}, true
}

func checkSetupText(t *testing.T, text string) bool {
	t.Helper()
	want, written := setupByGrammar(text)
	if got, ok := impl.ParseSetup(text); shown(got) != shown(want) || ok != written {
		t.Errorf("ParseSetup(%q) = %+v, %v, want %+v, %v", text, got, ok, want, written)
	}
	return written
}

func checkSideText(t *testing.T, text string) bool {
	t.Helper()
	want, written := sideByGrammar(text)
	if got, ok := impl.ParseSide(text); shown(got) != shown(want) || ok != written {
		t.Errorf("ParseSide(%q) = %+v, %v, want %+v, %v", text, got, ok, want, written)
	}
	return written
}

func checkNoSetup(t *testing.T, text string) {
	t.Helper()
	if got, ok := impl.ParseSetup(text); ok || shown(got) != shown(impl.Setup{}) {
		t.Errorf("ParseSetup(%q) = %+v, %v", text, got, ok)
	}
}

func checkNoSide(t *testing.T, text string) {
	t.Helper()
	if got, ok := impl.ParseSide(text); ok || shown(got) != shown(impl.Side{}) {
		t.Errorf("ParseSide(%q) = %+v, %v", text, got, ok)
	}
}

func TestParseSideRefuses(t *testing.T) {
	texts := []string{
		"", " ", "  ", "0", "1", "0 ", " 0", "5 1", "0:2:10", "1 0:2:10", "5 0:2:10", "1 5 0:2:10\n", "\n1 5 0:2:10", "1 5\n", "1 5 0:2:10\r", "1 5 0:2:10\x00",
		" 1 5 0:2:10", "1 5 0:2:10 ", "1  5 0:2:10", "1 5  0:2:10", "1 5 ", "1\t5 0:2:10", "1 5\t0:2:10", "1 5 0:2:10 \x20", "up 1 5 0:2:10", "up 1 5", "1 5x", "1 5 x", "x1 5", "x 5", "1 x", "1,5", "1:5", "1 5:0:2:10",
		"3 5", "-1 5", "-0 5", "+1 5", "01 5", "00 5", "1.0 5", "0x1 5", "10 5", "4294967296 5", "18446744073709551616 5", "9223372036854775808 5", "1 -1", "1 -0", "1 +5", "1 05", "1 00", "1 5.0", "1 .5", "1 1e2", "1 1_0", "1 1001", "1 10000", "1 4294967301", "1 18446744073709551621", "1 -9223372036854775808", "１ 5", "1 ５",
		"1 5 2:2:10", "1 5 -1:2:10", "1 5 -0:2:10", "1 5 +0:2:10", "1 5 00:2:10", "1 5 01:2:10", "1 5 0:0:10", "1 5 0:1001:10", "1 5 0:-1:10", "1 5 0:-2:10", "1 5 0:+2:10", "1 5 0:02:10", "1 5 0:2.0:10", "1 5 0:2:0", "1 5 0:2:1001", "1 5 0:2:-1", "1 5 0:2:+10", "1 5 0:2:010", "1 5 0:2:10.0", "1 5 0:4294967298:10", "1 5 0:2:18446744073709551626", "1 5 a:2:10", "1 5 0:b:10", "1 5 0:2:c", "1 5 0:50%:10", "1 5 0:2:１",
		"1 5 0", "1 5 0:2", "1 5 0:2:", "1 5 :2:10", "1 5 0::10", "1 5 ::", "1 5 :", "1 5 0:2:10:", "1 5 :0:2:10", "1 5 0:2:10:1", "1 5 0:2:10:10", "1 5 0: 2:10", "1 5 0:2 :10", "1 5 0 2 10", "1 5 0;2;10", "1 5 0:2;10", "1 5 0：2：10", "1 5 0:2:10,0:2:10", "1 5 0:2:100:2:10",
		"1 5 0:2:10 0:2", "1 5 0:2 0:2:10", "1 5 0:2:10  0:2:10", "1 5 0:2:10 0:2:10 ", "1 5 0:2:10 0:2:10 0:2:10 0:2:10", "1 5 0:2:10 0:2:10 0:2:10 0", "1 5 0:2:10 0:2:10 0:2:10 ", "1 5 0:2:10 1 5 0:2:10", "1 5\n0:2:10", "1 5 0:2:10\n0 0", "1 5 0:2:10\u00a00:2:10", "é 5", "1 5 \xff", "\xff", "1\xff5",
		strings.Repeat(" ", 5000), strings.Repeat("0", 5000), strings.Repeat("0 ", 5000), "1 " + strings.Repeat("0", 5000), "1 " + strings.Repeat("9", 5000), "1 5 " + strings.Repeat("0:", 5000), "1 5" + strings.Repeat(" 0:2:10", 5000), "1 5 0:2:" + strings.Repeat("1", 5000), strings.Repeat(":", 5000),
	}
	for _, text := range texts {
		checkNoSide(t, text)
	}
}

func TestAllShortSideTexts(t *testing.T) {
	written := 0
	var extend func(text string, left int)
	extend = func(text string, left int) {
		if checkSideText(t, text) {
			written++
		}
		if left == 0 {
			return
		}
		for _, next := range []string{"0", "1", " ", ":", "-"} {
			extend(text+next, left-1)
		}
	}
	extend("", 6)
	extend("1 0 ", 6)
	extend("0 1 0:1:1 1:1:1 ", 6)
	extend("0 1 0:1:1 1:1:1 0:", 5)
	extend("0 1 0:1:1 1:1:1 1:1:1", 5)
	if written < 50 {
		t.Errorf("only %d texts were sides", written)
	}
}

// A text that differs from a written one in a single byte is the likeliest to be read by mistake.
func changeOneByte(text string, check func(text string)) {
	for i := range len(text) + 1 {
		for b := range 256 {
			one := string([]byte{byte(b)})
			check(text[:i] + one + text[i:])
			if i < len(text) {
				check(text[:i] + one + text[i+1:])
			}
		}
		if i < len(text) {
			check(text[:i] + text[i+1:])
		}
		check(text[:i])
		check(text[i:])
		check(text + text[:i])
		check(text[i:] + text)
	}
}

func TestSideTextsWithOneByteChanged(t *testing.T) {
	for _, text := range []string{"1 5 0:2:10", "0 0", "2 1000", "2 1000 1:1000:1000 0:1:1 1:99:100", "0 20 1:50:30 0:100:9"} {
		changeOneByte(text, func(text string) { checkSideText(t, text) })
	}
}

func TestSetupTextsWithOneByteChanged(t *testing.T) {
	largest := "rules 1000 0 1000\ngoal zzzzzzzzzzzz 1000 1000\ngoal 0 999.999 0\ngoal abcdefghijkl 0.001 1\ncount 1000 1000\nup 1 1000 0:1000:1000 1:1000:1000 0:1:1\ndown 2 1 1:1:1 0:7:20 1:1:1\n"
	for _, text := range []string{defaultText, "rules 0 0 0\ngoal a 1 0\ncount 0 0\nup 0 0\ndown 0 0\n", "rules 0 0 0\ngoal a 1 0\ngoal b 1 0\ncount 0 9\nup 0 0\ndown 2 9\n", largest} {
		changeOneByte(text, func(text string) { checkSetupText(t, text) })
	}
}

// linesWith are the lines of the default text with another one in a place.
func linesWith(place int, line string) string {
	lines := strings.Split(strings.TrimSuffix(defaultText, "\n"), "\n")
	lines[place] = line
	return strings.Join(lines, "\n") + "\n"
}

func TestParseSetupRefusesLines(t *testing.T) {
	lines := [][]string{
		{"", " ", "rules", "rules ", "rules 5", "rules 5 30", "rules 5 30 ", "rules 5 30 10 1", "rules 5 30 10 ", " rules 5 30 10", "rules  5 30 10", "rules 5  30 10", "rules\t5 30 10", "Rules 5 30 10", "RULES 5 30 10", "rule 5 30 10", "5 30 10", "rules:5 30 10", "rules 05 30 10", "rules +5 30 10", "rules -0 30 10", "rules -5 30 10", "rules 5 030 10", "rules 5 30 010", "rules 5 30 -0", "rules 5.0 30 10", "rules 5 30 1e1", "rules 1001 30 10", "rules 5 1001 10", "rules 5 30 1001", "rules -1 30 10", "rules 5 -1 10", "rules 5 30 -1", "rules 4294967301 30 10", "rules 5 30 18446744073709551626", "rules 5 30 " + strings.Repeat("9", 500), "rules x 30 10", "rules 5 30 １０", "rules 5 30 10\r", "rules 5 30 10\nrules 5 30 10", "rules 5 30 10\n", "\nrules 5 30 10", "# rules\nrules 5 30 10", "rules 5 30 10\nhello", "hello"},
		{"", " ", "goal", "goal ", "goal cpu", "goal cpu 1", "goal cpu 1 ", "goal cpu 1 100 ", "goal cpu 1 100 1", " goal cpu 1 100", "goal  cpu 1 100", "goal cpu  1 100", "goal cpu 1  100", "Goal cpu 1 100", "GOAL cpu 1 100", "goals cpu 1 100", "cpu 1 100", "goal CPU 1 100", "goal Cpu 1 100", "goal abcdefghijklm 1 100", "goal  1 100", "goal c-u 1 100", "goal é 1 100", "goal \xff 1 100", "goal cpu 1.0 100", "goal cpu 1.000 100", "goal cpu 01 100", "goal cpu +1 100", "goal cpu .5 100", "goal cpu 0.50 100", "goal cpu 1. 100", "goal cpu 1000m 100", "goal cpu 0 100", "goal cpu -1 100", "goal cpu 1000.001 100", "goal cpu 0.0001 100", "goal cpu 1 1001", "goal cpu 1 -1", "goal cpu 1 -0", "goal cpu 1 0100", "goal cpu 1 +100", "goal cpu 1 x", "goal cpu 1 100\ngoal cpu 1 100", "goal cpu 1 100\ngoal cpu 2 50", "goal cpu 1 100\ngoal ram 1 100\ngoal cpu 1 100", "goal a 1 0\ngoal b 1 0\ngoal c 1 0\ngoal d 1 0", "goal cpu 1 100\n", "\ngoal cpu 1 100", "goal cpu 1 100\n\ngoal ram 1 100", "goal cpu 1 100\ngoal ram 1", "goal cpu 1 100 ram 1 100", strings.Repeat("goal cpu 1 100\n", 5000)},
		{"", "count", "count ", "count 1", "count 1 ", "count 1 10 ", "count 1 10 5", "count  1 10", "count 1  10", " count 1 10", "Count 1 10", "COUNT 1 10", "counts 1 10", "1 10", "count 10 1", "count 1 0", "count -1 10", "count -1 -1", "count -0 10", "count +1 10", "count 01 10", "count 1 010", "count 1 1001", "count 1001 1001", "count 1 10.0", "count 1 x", "count 1:10", "count 1 4294967306", "count 18446744073709551617 10", "count 1 10\ncount 1 10", "count 1 9\ncount 1 10", "count 1 10\n"},
		{"", "up", "up ", "up 0", "up 0 ", "up 0 0 ", "up 0 0 1:100:15 ", "up  0 0 1:100:15", "up 0  0 1:100:15", "up 0 0  1:100:15", " up 0 0 1:100:15", "Up 0 0 1:100:15", "UP 0 0 1:100:15", "0 0 1:100:15", "ups 0 0", "up 3 0 1:100:15", "up -1 0 1:100:15", "up -0 0 1:100:15", "up 0 -1 1:100:15", "up 0 1001 1:100:15", "up 0 00 1:100:15", "up 0 0 2:100:15", "up 0 0 1:0:15", "up 0 0 1:1001:15", "up 0 0 1:100:0", "up 0 0 1:100:1001", "up 0 0 1:100", "up 0 0 1:100:", "up 0 0 :100:15", "up 0 0 1::15", "up 0 0 1:100:15:1", "up 0 0 01:100:15", "up 0 0 1:100:15 1:100:15 1:100:15 1:100:15", "up 0 0 1:100:15 x", "up x 0", "up 0 x", "up 0 0 1:100:15\nup 0 0 1:100:15", "up 0 0\nup 0 0 1:100:15", "down 0 0 1:100:15", "up 0 0 1:100:15\n", "up 0 0 1:100:15\r"},
		{"", "down", "down ", "down 0", "down 0 20 ", "down 0 20 1:50:30 ", "down  0 20 1:50:30", "Down 0 20 1:50:30", "DOWN 0 20 1:50:30", "0 20 1:50:30", "downs 0 20", "down 3 20 1:50:30", "down -1 20 1:50:30", "down 0 -1 1:50:30", "down 0 1001 1:50:30", "down 0 020 1:50:30", "down 0 +20 1:50:30", "down 0 20 2:50:30", "down 0 20 1:0:30", "down 0 20 1:1001:30", "down 0 20 1:50:0", "down 0 20 1:50:1001", "down 0 20 1:50", "down 0 20 1:50:30:", "down 0 20 1::30", "down 0 20 1:50:30 1:50:30 1:50:30 1:50:30", "down 0 20 1:50:30\ndown 0 20 1:50:30", "up 0 20 1:50:30", "down 0 20 1:50:30\n", "down 0 20 1:50:30\n\n", "down 0 20 1:50:30\nend", "down 0 20 1:50:30\n#", "down 0 20 1:50:30\x00", "down 0 20 1:50:30\nrules 5 30 10"},
	}
	for place, list := range lines {
		for _, line := range list {
			checkNoSetup(t, linesWith(place, line))
		}
	}
}

func TestParseSetupRefusesTexts(t *testing.T) {
	texts := []string{
		"", "\n", " ", "\n\n\n\n\n", "\x00", "\xff", "é", "setup", "rules", "rules 5 30 10", "rules 5 30 10\n", "goal cpu 1 100\n", "up 0 0\ndown 0 0\n",
		strings.TrimSuffix(defaultText, "\n"), defaultText + "\n", "\n" + defaultText, defaultText + " ", " " + defaultText, defaultText + "x", "x" + defaultText, defaultText + defaultText, defaultText + defaultText[:13],
		strings.ReplaceAll(defaultText, "\n", "\r\n"), strings.ReplaceAll(defaultText, "\n", " "), strings.ReplaceAll(defaultText, "\n", ";"), strings.ReplaceAll(defaultText, "\n", " \n"), strings.ReplaceAll(defaultText, "\n", "\n\n"), strings.ReplaceAll(defaultText, " ", "  "), strings.ReplaceAll(defaultText, " ", "\t"), strings.ReplaceAll(defaultText, " ", "\u00a0"), strings.ReplaceAll(defaultText, ":", "："), strings.ToUpper(defaultText), "\ufeff" + defaultText,
		strings.Repeat("\n", 5000), strings.Repeat(" ", 5000), strings.Repeat("rules 5 30 10\n", 1000), strings.Repeat("a", 100000), strings.Repeat(defaultText, 500), strings.Repeat("up 0 0 ", 5000),
	}
	for _, text := range texts {
		checkNoSetup(t, text)
	}
}

// TestSetupTextsOfAllLines writes each line of a setup not at all, in its place
// and in every other place, and more than once.
func TestSetupTextsOfAllLines(t *testing.T) {
	lines := []string{"rules 5 30 10\n", "goal cpu 1 100\n", "goal ram 0.5 0\n", "count 1 10\n", "up 0 0 1:100:15\n", "down 0 20\n", "\n"}
	written := 0
	var extend func(text string, left int)
	extend = func(text string, left int) {
		if checkSetupText(t, text) {
			written++
		}
		if left == 0 {
			return
		}
		for _, line := range lines {
			extend(text+line, left-1)
		}
	}
	extend("", 6)
	if written != 4 {
		t.Errorf("%d texts were setups", written)
	}
}

func TestSetupTextsWithLinesMoved(t *testing.T) {
	for _, metrics := range [][]string{{"cpu"}, {"cpu", "ram"}, {"cpu", "ram", "io"}} {
		text, _ := impl.SetupText(setupOf(goalsOf(metrics...)...))
		lines := slices.Collect(strings.Lines(text))
		for i, line := range lines {
			without := slices.Delete(slices.Clone(lines), i, i+1)
			checkSetupText(t, strings.Join(without, ""))
			for place := range len(lines) {
				checkSetupText(t, strings.Join(slices.Insert(slices.Clone(without), place, line), ""))
				checkSetupText(t, strings.Join(slices.Insert(slices.Clone(lines), place, line), ""))
				checkSetupText(t, strings.Join(slices.Insert(slices.Clone(lines), place, "\n"), ""))
				exchanged := slices.Clone(lines)
				exchanged[i], exchanged[place] = exchanged[place], exchanged[i]
				checkSetupText(t, strings.Join(exchanged, ""))
			}
		}
	}
}

func checkGoalOf(t *testing.T, s impl.Setup, metric string, want impl.Goal, found bool) {
	t.Helper()
	if got, ok := impl.GoalOf(s, metric); got != want || ok != found {
		t.Errorf("GoalOf(%+v, %q) = %+v, %v, want %+v, %v", s, metric, got, ok, want, found)
	}
}

func TestGoalOf(t *testing.T) {
	absent := append(badNames(), "", "x9", "cp", "cpux", "xcpu", "CPU", "cpu ", " cpu", "cpu 1 100", "goal")
	for _, metrics := range [][]string{{"cpu"}, {"ram", "cpu"}, {"cpu", "ram", "io"}, {"b", "c", "a"}, {"0", "00", "000"}} {
		goals := goalsOf(metrics...)
		for i, metric := range metrics {
			checkGoalOf(t, setupOf(goals...), metric, goals[i], true)
		}
		for _, metric := range absent {
			checkGoalOf(t, setupOf(goals...), metric, impl.Goal{}, false)
		}
	}
	for _, s := range goodSetups() {
		for _, g := range s.Goals {
			checkGoalOf(t, s, g.Metric, g, true)
		}
		checkGoalOf(t, s, "absent", impl.Goal{}, false)
	}
}

// The document requires no valid setup here, and no name.
func TestGoalOfInvalidSetups(t *testing.T) {
	checkGoalOf(t, impl.Setup{}, "cpu", impl.Goal{}, false)
	checkGoalOf(t, impl.Setup{}, "", impl.Goal{}, false)
	checkGoalOf(t, impl.Setup{Rules: usual(), Goals: []impl.Goal{}, Behave: usualBehave()}, "cpu", impl.Goal{}, false)
	checkGoalOf(t, setupOf(impl.Goal{}), "cpu", impl.Goal{}, false)
	checkGoalOf(t, setupOf(impl.Goal{Target: 5}), "", impl.Goal{Target: 5}, true)
	checkGoalOf(t, setupOf(impl.Goal{Metric: "CPU", Target: 5}), "CPU", impl.Goal{Metric: "CPU", Target: 5}, true)
	checkGoalOf(t, setupOf(impl.Goal{Metric: "CPU", Target: 5}), "cpu", impl.Goal{}, false)
	checkGoalOf(t, setupOf(goalsOf("cpu", "ram", "cpu", "ram")...), "cpu", goalsOf("cpu")[0], true)
	checkGoalOf(t, setupOf(goalsOf("cpu", "ram", "cpu", "ram")...), "ram", goalsOf("cpu", "ram")[1], true)
	checkGoalOf(t, setupOf(goalsOf("a", "b", "c", "d", "e")...), "e", goalsOf("a", "b", "c", "d", "e")[4], true)
	for _, s := range badSetups() {
		for i, g := range s.Goals {
			first := slices.IndexFunc(s.Goals, func(x impl.Goal) bool { return x.Metric == g.Metric })
			if first == i {
				checkGoalOf(t, s, g.Metric, g, true)
			}
		}
		checkGoalOf(t, s, "absent", impl.Goal{}, false)
	}
}

func TestLongestWindow(t *testing.T) {
	cases := []struct {
		b    impl.Behave
		want int
	}{
		{impl.DefaultSetup().Behave, 30}, {usualBehave(), 20}, {impl.Behave{}, 0},
		{impl.Behave{Up: sideWith(0, 5), Down: sideWith(0, 7)}, 7}, {impl.Behave{Up: sideWith(0, 7), Down: sideWith(0, 5)}, 7}, {impl.Behave{Up: sideWith(0, 5), Down: sideWith(0, 5)}, 5}, {impl.Behave{Up: sideWith(0, longSpan)}, longSpan}, {impl.Behave{Down: sideWith(2, longSpan)}, longSpan},
		{impl.Behave{Up: sideWith(0, 5, byPods(1, 9), byPercent(1, 8), byPods(1, 7)), Down: sideWith(0, 6)}, 9}, {impl.Behave{Up: sideWith(1, 5, byPods(1, 7), byPercent(1, 9), byPods(1, 8)), Down: sideWith(0, 6)}, 9}, {impl.Behave{Up: sideWith(2, 5, byPods(1, 7), byPods(1, 8), byPercent(1, 9)), Down: sideWith(0, 6)}, 9},
		{impl.Behave{Up: sideWith(0, 6), Down: sideWith(0, 5, byPods(1, 9), byPods(1, 8), byPods(1, 7))}, 9}, {impl.Behave{Up: sideWith(0, 6), Down: sideWith(1, 5, byPods(1, 7), byPercent(1, 9), byPods(1, 8))}, 9}, {impl.Behave{Up: sideWith(0, 6), Down: sideWith(2, 5, byPods(1, 7), byPods(1, 8), byPercent(1, 9))}, 9},
		{impl.Behave{Up: sideWith(0, 10, byPods(1, 9)), Down: sideWith(0, 6, byPods(1, 9))}, 10}, {impl.Behave{Up: sideWith(0, 0, byPods(999, 9)), Down: sideWith(0, 10, byPods(999, 9)), Min: 99, Max: 100}, 10}, {impl.Behave{Up: sideWith(0, 0, byPods(manyCount, 1)), Max: manyCount}, 1}, {impl.Behave{Down: sideWith(0, 0, byPercent(1, longSpan))}, longSpan},
	}
	for _, c := range cases {
		if got := impl.LongestWindow(c.b); got != c.want {
			t.Errorf("LongestWindow(%+v) = %d, want %d", c.b, got, c.want)
		}
	}
	for _, b := range goodBehaves() {
		spans := []int{b.Up.Window, b.Down.Window}
		for _, p := range slices.Concat(b.Up.Policies, b.Down.Policies) {
			spans = append(spans, p.Period)
		}
		if got := impl.LongestWindow(b); got != slices.Max(spans) {
			t.Errorf("LongestWindow(%+v) = %d, want %d", b, got, slices.Max(spans))
		}
	}
	for _, b := range badBehaves() {
		if got := impl.LongestWindow(b); got != -1 {
			t.Errorf("LongestWindow(%+v) = %d", b, got)
		}
	}
}

// overwriteAll fills a list and the room behind it.
func overwriteAll[T any](list []T, with T) {
	list = list[:cap(list)]
	for i := range list {
		list[i] = with
	}
}

// checkSetupApart overwrites each slice of a setup alone. Only its own line may
// become another one.
func checkSetupApart(t *testing.T, create func() impl.Setup) {
	t.Helper()
	first := create()
	text := shown(first)
	overwritten := func(name string, overwrite func(*impl.Setup), restore func(*impl.Setup)) {
		s, other := create(), create()
		overwrite(&s)
		restore(&s)
		if shown(s) != text {
			t.Errorf("%s share memory with the rest of %s", name, text)
		}
		if shown(first) != text || shown(other) != text || shown(create()) != text {
			t.Errorf("%s of two results share memory: %s", name, text)
		}
	}
	overwritten("goals", func(s *impl.Setup) { overwriteAll(s.Goals, impl.Goal{Metric: "mark"}) }, func(s *impl.Setup) { s.Goals = first.Goals })
	overwritten("policies up", func(s *impl.Setup) { overwriteAll(s.Behave.Up.Policies, byPods(-77, -77)) }, func(s *impl.Setup) { s.Behave.Up.Policies = first.Behave.Up.Policies })
	overwritten("policies down", func(s *impl.Setup) { overwriteAll(s.Behave.Down.Policies, byPods(-77, -77)) }, func(s *impl.Setup) { s.Behave.Down.Policies = first.Behave.Down.Policies })
}

func TestConfigurationsAreNewMemory(t *testing.T) {
	checkSetupApart(t, impl.DefaultSetup)
	for _, s := range goodSetups() {
		text := setupByRule(s)
		checkSetupApart(t, func() impl.Setup {
			read, _ := impl.ParseSetup(text)
			return read
		})
	}
	for _, s := range goodSides() {
		text := sideByRule(s)
		first, _ := impl.ParseSide(text)
		second, _ := impl.ParseSide(text)
		overwriteAll(first.Policies, byPods(-77, -77))
		third, _ := impl.ParseSide(text)
		if shown(second) != shown(s) || shown(third) != shown(s) {
			t.Errorf("two results of ParseSide(%q) share memory", text)
		}
	}
}

// TestConfigurationsLeaveTheirArguments calls every function of the chapter that
// has a slice in its arguments.
func TestConfigurationsLeaveTheirArguments(t *testing.T) {
	for i, s := range append(goodSetups(), badSetups()...) {
		goals := spare(s.Goals, impl.Goal{Metric: "mark"})
		up, down := spare(s.Behave.Up.Policies, byPods(-77, -77)), spare(s.Behave.Down.Policies, byPods(-77, -77))
		given := impl.Setup{Rules: s.Rules, Goals: goals, Behave: impl.Behave{Up: sideWith(s.Behave.Up.Select, s.Behave.Up.Window, up...), Down: sideWith(s.Behave.Down.Select, s.Behave.Down.Window, down...), Min: s.Behave.Min, Max: s.Behave.Max}}
		whole := func() string {
			return fmt.Sprint(given, goals[:len(goals)+2], up[:len(up)+2], down[:len(down)+2])
		}
		before := whole()
		impl.SetupOk(given)
		impl.SetupText(given)
		impl.SideText(given.Behave.Up)
		impl.SideText(given.Behave.Down)
		impl.GoalOf(given, "cpu")
		impl.LongestWindow(given.Behave)
		if after := whole(); after != before {
			t.Fatalf("setup %d: %s became %s", i, before, after)
		}
	}
}
