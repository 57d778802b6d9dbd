package tests

import (
	"strconv"
	"strings"
	"testing"

	"loop.example/s02135/impl"
)

// asked reads tests that the test writes; wrong ones are the test's mistake.
func asked(t *testing.T, lines ...string) []impl.Test {
	t.Helper()
	var list []impl.Test
	for _, line := range lines {
		in, want, _ := strings.Cut(line, " => ")
		list = append(list, impl.Test{In: of(t, in), Want: of(t, want)})
	}
	return list
}

// sevens has so many tests with the scalar 7.
func sevens(n int) []impl.Test {
	list := make([]impl.Test, n)
	for i := range list {
		list[i] = impl.Test{In: scalarOf(7), Want: scalarOf(7)}
	}
	return list
}

func seeded(seed int) impl.Limits {
	l := plenty()
	l.Seed = seed
	return l
}

// outcomesTold is an answer of Outcomes in words.
func outcomesTold(list []impl.Outcome, code int) string {
	if code != 0 {
		if len(list) != 0 {
			return "outcomes beside code " + strconv.Itoa(code)
		}
		return "code " + strconv.Itoa(code)
	}
	words := make([]string, len(list))
	for i, o := range list {
		words[i] = told(o)
	}
	return strings.Join(words, "; ")
}

// verdictsTold is an answer of Judge in words, also one with a code that may
// not be there.
func verdictsTold(list []impl.Verdict, ok bool) string {
	if !ok {
		if len(list) != 0 {
			return "verdicts beside false"
		}
		return "false"
	}
	names := []string{"none", "pass", "fail", "error", "fuel", "cells"}
	words := make([]string, len(list))
	for i, v := range list {
		name := "kind " + strconv.Itoa(v.Kind)
		if v.Kind >= 0 && v.Kind < len(names) {
			name = names[v.Kind]
		}
		words[i] = name
		if v.Code != 0 || v.Kind == impl.Error {
			words[i] += " " + strconv.Itoa(v.Code)
		}
	}
	return strings.Join(words, ", ")
}

func checkOutcomes(t *testing.T, source string, tests []impl.Test, l impl.Limits, want string) {
	t.Helper()
	if got := outcomesTold(impl.Outcomes(source, tests, l)); got != want {
		t.Errorf("Outcomes(%q) with %v: %s, want %s", short(source), l, short(got), short(want))
	}
}

func checkJudge(t *testing.T, source string, tests []impl.Test, l impl.Limits, want string) {
	t.Helper()
	if got := verdictsTold(impl.Judge(source, tests, l)); got != want {
		t.Errorf("Judge(%q) with %v: %s, want %s", short(source), l, got, want)
	}
}

// times is one word for each of n tests.
func times(n int, word, between string) string {
	list := make([]string, n)
	for i := range list {
		list[i] = word
	}
	return strings.Join(list, between)
}

func TestOutcomesAndVerdicts(t *testing.T) {
	tests := asked(t, ":7 => :7", "3:1 2 3 => :6", "0: => 0:", "2 2:1 2 3 4 => 2:4 6")
	for _, c := range []struct {
		source         string
		l              impl.Limits
		outcomes, want string
	}{
		{"w", plenty(), ":7, 1 and 0; 3:1 2 3, 1 and 0; 0:, 1 and 0; 2 2:1 2 3 4, 1 and 0", "pass, fail, pass, fail"},
		{"+/ w", plenty(), ":7, 2 and 1; :6, 2 and 1; :0, 2 and 1; 2:4 6, 2 and 2", "pass, pass, fail, pass"},
		{"+/ w", within(2, 1), ":7, 2 and 1; :6, 2 and 1; :0, 2 and 1; cells, 2 and 0", "pass, pass, fail, cells"},
		{"+/ w", within(1, 9), times(4, "fuel, 1 and 0", "; "), "fuel, fuel, fuel, fuel"},
		{"w", within(0, 0), times(4, "fuel, 0 and 0", "; "), "fuel, fuel, fuel, fuel"},
		{"F := {(count w) < 2 : w; self 1 drop w}; F w", within(12, 99), ":7, 7 and 3; fuel, 12 and 7; 0:, 7 and 3; fuel, 12 and 7", "pass, fuel, pass, fuel"},
		{"0 from w", plenty(), "error 2, 3 and 1; :1, 3 and 2; error 4, 3 and 1; 2:1 2, 3 and 3", "error 2, fail, error 4, fail"},
		{"grade w", plenty(), "error 2, 2 and 0; 3:0 1 2, 2 and 3; 0:, 2 and 0; error 2, 2 and 0", "error 2, fail, pass, error 2"},
		{"1 2 + w", plenty(), "2:8 9, 3 and 4; error 3, 3 and 2; error 3, 3 and 2; error 2, 3 and 2", "fail, error 3, error 3, error 2"},
		{"x", plenty(), times(4, "error 10, 1 and 0", "; "), "error 10, error 10, error 10, error 10"},
		{"roll w", impl.Limits{Fuel: 9, Cells: 9, Seed: 1}, times(4, "error 11, 2 and 0", "; "), "error 11, error 11, error 11, error 11"},
		{"", plenty(), times(4, "error 12, 0 and 0", "; "), "error 12, error 12, error 12, error 12"},
		{"# nothing", within(0, 0), times(4, "error 12, 0 and 0", "; "), "error 12, error 12, error 12, error 12"},
		{"F := {self w}; F w", plenty(), times(4, "error 13, 102 and 0", "; "), "error 13, error 13, error 13, error 13"},
	} {
		checkOutcomes(t, c.source, tests, c.l, c.outcomes)
		checkJudge(t, c.source, tests, c.l, c.want)
	}
}

// The names of a run are gone when the next test is run.
func TestATestHasOnlyItsOwnNames(t *testing.T) {
	tests := asked(t, ":0 => :5", ":1 => :5", ":0 => :5")
	checkJudge(t, "F := {w : 1 % 0; 5}; x := F w; x", tests, plenty(), "pass, error 1, pass")
	checkJudge(t, "w := w + 5; w", tests, plenty(), "pass, fail, pass")
	checkJudge(t, "F := {w : G w; 5}; x := F w; G := {w}; x", tests, plenty(), "pass, error 10, pass")
}

func TestErrorsOfRunsInVerdicts(t *testing.T) {
	for source, code := range map[string]int{
		"w % 0": impl.Domain, "grade w": impl.Rank, "1 2 + 1 2 3": impl.Length, "9 from 1 2": impl.Index, "w + 3000000000": impl.Overflow, "iota 1001": impl.Limit,
		"y": impl.NoName, "W w": impl.NoName, "roll 0": impl.Domain, "x := w": impl.NoValue, "F := {self w}; F w": impl.TooDeep,
	} {
		checkJudge(t, source, sevens(2), plenty(), times(2, "error "+strconv.Itoa(code), ", "))
	}
	l := plenty()
	l.Roll = false
	checkJudge(t, "roll 5", sevens(2), l, times(2, "error "+strconv.Itoa(impl.NoRight), ", "))
}

// A value passes when it has the shape of Want too.
func TestPassIsTheVeryArray(t *testing.T) {
	arrays := append(pool(), vectorOf(7), counted(7, 0, 1, 1), counted(7, 0, 1, 1, 1), counted(1, 1, 4), counted(1, 1, 1, 4), counted(1, 1, 4, 1), counted(1, 1, 2, 2), made([]int{2, 2}, 1, 2, 3, 5), made([]int{2, 2}, 0, 2, 3, 4), counted(1, 1, 6), counted(1, 1, 3, 2), counted(1, 1, 2, 3))
	for _, in := range arrays {
		for _, want := range arrays {
			verdict := "fail"
			if show(in, 0) == show(want, 0) {
				verdict = "pass"
			}
			checkJudge(t, "w", []impl.Test{{In: in, Want: want}}, plenty(), verdict)
		}
	}
}

// unread are sources that Parse refuses, by its code.
func unread() [][]string {
	return [][]string{
		1: {strings.Repeat("w", impl.MaxText+1), strings.Repeat(" ", impl.MaxText+1), strings.Repeat("$", impl.MaxText+1)},
		2: {"$", "w + $", "w +$(", "1a", "\x00", "3000000001", strings.Repeat("$", impl.MaxText)},
		3: {"w +", "(", "w w", "F := w", "self := {w}", "+", strings.Repeat("(", impl.MaxText)},
		4: {inBrackets(impl.MaxNest+1, "w"), strings.Repeat("1 ", impl.MaxCells) + "1"},
	}
}

func TestSourcesThatDoNotParse(t *testing.T) {
	for code, sources := range unread() {
		for _, source := range sources {
			for _, n := range []int{0, 1, 2, impl.MaxTests} {
				checkOutcomes(t, source, sevens(n), plenty(), "code "+strconv.Itoa(10+code))
				checkJudge(t, source, sevens(n), plenty(), times(n, "error "+strconv.Itoa(20+code), ", "))
			}
			checkOutcomes(t, source, sevens(1), within(0, 0), "code "+strconv.Itoa(10+code))
			checkJudge(t, source, sevens(1), within(0, 0), "error "+strconv.Itoa(20+code))
		}
	}
	checkJudge(t, strings.Repeat(" ", impl.MaxText-1)+"w", sevens(1), plenty(), "pass")
	checkJudge(t, inBrackets(impl.MaxNest, "w"), sevens(1), plenty(), "pass")
}

func TestNumbersOfTests(t *testing.T) {
	for n := range impl.MaxTests + 1 {
		checkOutcomes(t, "w", sevens(n), plenty(), times(n, ":7, 1 and 0", "; "))
		checkJudge(t, "w", sevens(n), plenty(), times(n, "pass", ", "))
	}
	for _, n := range []int{impl.MaxTests + 1, impl.MaxTests + 2, 1000} {
		checkRefused(t, sevens(n), plenty())
	}
	checkOutcomes(t, "w", nil, plenty(), "")
	checkJudge(t, "w", []impl.Test{}, plenty(), "")
}

// checkRefused asks for code 1 whatever the source is.
func checkRefused(t *testing.T, tests []impl.Test, l impl.Limits) {
	t.Helper()
	for _, source := range []string{"", "w", "1 % 0", "$", "w +", strings.Repeat("w", impl.MaxText+1)} {
		checkOutcomes(t, source, tests, l, "code 1")
		checkJudge(t, source, tests, l, "false")
	}
}

func TestGradingWithWrongLimits(t *testing.T) {
	for _, l := range []impl.Limits{{}, within(-1, 5), within(5, -1), within(impl.MaxBudget+1, 5), within(5, impl.MaxBudget+1), seeded(0), seeded(-1), seeded(2147483647), seeded(1 << 62), seeded(-1 << 62)} {
		for _, n := range []int{0, 1, 3, impl.MaxTests} {
			checkRefused(t, sevens(n), l)
		}
		checkRefused(t, []impl.Test{{}}, l)
	}
	checkJudge(t, "w", sevens(1), within(impl.MaxBudget, 0), "pass")
	checkJudge(t, "w", sevens(1), within(1, impl.MaxBudget), "pass")
}

func TestGradingOfWrongArrays(t *testing.T) {
	checkRefused(t, []impl.Test{{}}, plenty())
	for _, bad := range badArrays() {
		checkRefused(t, []impl.Test{{In: bad, Want: scalarOf(7)}}, plenty())
		checkRefused(t, []impl.Test{{In: scalarOf(7), Want: bad}}, plenty())
		for _, at := range []int{0, 1, impl.MaxTests - 1} {
			tests := sevens(impl.MaxTests)
			tests[at].In = bad
			checkRefused(t, tests, plenty())
			tests[at] = impl.Test{In: scalarOf(7), Want: bad}
			checkRefused(t, tests, plenty())
		}
	}
}

// modelSeed counts the seeds 1 .. 2147483646 round and round.
func modelSeed(seed, i int) int {
	for range i {
		seed += 7919
		if seed > 2147483646 {
			seed -= 2147483646
		}
	}
	return seed
}

// A roll by MaxValue tells the state itself, which is less than MaxValue.
func TestTheSeedOfEachTest(t *testing.T) {
	const last = 2147483646
	seeds := []int{1, 2, 77, 7919, 7920, 1000000000, last - 1, last}
	for i := range impl.MaxTests {
		seeds = append(seeds, last-7919*i-1, last-7919*i, last-7919*i+1)
	}
	for _, seed := range seeds {
		if seed > last {
			continue
		}
		outcomes, code := impl.Outcomes("roll 3000000000", sevens(impl.MaxTests), seeded(seed))
		if code != 0 || len(outcomes) != impl.MaxTests {
			t.Fatalf("code %d, %d outcomes", code, len(outcomes))
		}
		for i, o := range outcomes {
			want := ":" + strconv.Itoa(modelSeed(seed, i)*48271%2147483647) + ", 2 and 2"
			if told(o) != want {
				t.Errorf("test %d with seed %d: %s, want %s", i, seed, told(o), want)
			}
		}
	}
	checkOutcomes(t, "roll 100", sevens(3), seeded(1), ":71, 2 and 2; :20, 2 and 2; :69, 2 and 2")
}

// A verdict can hang on the seed.
func TestVerdictsOfRolls(t *testing.T) {
	tests := asked(t, ":100 => :71", ":100 => :71", ":100 => :69")
	checkJudge(t, "roll w", tests, seeded(1), "pass, fail, pass")
	l := seeded(1)
	l.Roll = false
	checkJudge(t, "roll w", tests, l, "error 11, error 11, error 11")
}
