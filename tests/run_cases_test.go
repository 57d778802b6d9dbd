package tests

import (
	"slices"
	"strconv"
	"strings"
	"testing"

	"loop.example/s02135/impl"
)

func plenty() impl.Limits {
	return impl.Limits{Fuel: impl.MaxBudget, Cells: impl.MaxBudget, Roll: true, Seed: 1}
}

func within(fuel, cells int) impl.Limits {
	l := plenty()
	l.Fuel, l.Cells = fuel, cells
	return l
}

// told is an outcome in words, also one with a field that may not be there.
func told(o impl.Outcome) string {
	used := ", " + strconv.Itoa(o.Fuel) + " and " + strconv.Itoa(o.Cells)
	noValue := len(o.Value.Shape) == 0 && len(o.Value.Data) == 0
	switch {
	case o.Kind == impl.DidValue && o.Code == 0:
		return show(o.Value, 0) + used
	case o.Kind == impl.DidError && o.Code != 0 && noValue:
		return "error " + strconv.Itoa(o.Code) + used
	case o.Kind == impl.DidFuel && o.Code == 0 && noValue:
		return "fuel" + used
	case o.Kind == impl.DidCells && o.Code == 0 && noValue:
		return "cells" + used
	case o.Kind == 0 && o.Code == 0 && noValue && used == ", 0 and 0":
		return "nothing"
	}
	return "no outcome: kind " + strconv.Itoa(o.Kind) + ", code " + strconv.Itoa(o.Code) + ", cells " + strconv.Itoa(len(o.Value.Data)) + used
}

// checkRun runs a text with the scalar 7.
func checkRun(t *testing.T, text string, l impl.Limits, want string) {
	t.Helper()
	checkRunWith(t, text, scalarOf(7), l, want)
}

func checkRunWith(t *testing.T, text string, w impl.Array, l impl.Limits, want string) {
	t.Helper()
	if got := told(impl.Run(parsed(t, text, 0, 0), w, l)); got != want {
		t.Errorf("%q: %s, want %s", short(text), got, want)
	}
}

func TestLimits(t *testing.T) {
	const great = 1 << 62
	for _, c := range []struct {
		l  impl.Limits
		ok bool
	}{
		{plenty(), true}, {within(0, 0), true}, {impl.Limits{Seed: 1}, true}, {impl.Limits{Seed: 1, Roll: true}, true}, {within(1, impl.MaxBudget), true}, {within(impl.MaxBudget, 1), true},
		{within(-1, 5), false}, {within(5, -1), false}, {within(-1, -1), false}, {within(impl.MaxBudget+1, 5), false}, {within(5, impl.MaxBudget+1), false}, {within(great, 0), false}, {within(0, great), false}, {within(-great, 0), false}, {within(0, -great), false},
		{impl.Limits{}, false}, {impl.Limits{Fuel: 9, Cells: 9, Seed: 0}, false}, {impl.Limits{Fuel: 9, Cells: 9, Seed: -1}, false}, {impl.Limits{Seed: -2147483646}, false}, {impl.Limits{Seed: 2147483645}, true}, {impl.Limits{Seed: 2147483646}, true}, {impl.Limits{Seed: 2147483646, Roll: true}, true}, {impl.Limits{Seed: 2147483647}, false}, {impl.Limits{Seed: 2147483648}, false}, {impl.Limits{Seed: 1<<32 + 1}, false}, {impl.Limits{Seed: great}, false},
	} {
		if impl.LimitsOk(c.l) != c.ok {
			t.Errorf("LimitsOk(%v): %v", c.l, !c.ok)
		}
		want := "error 12, 0 and 0"
		if !c.ok {
			want = "nothing"
		}
		checkRun(t, "", c.l, want)
	}
}

func TestValuesOfRuns(t *testing.T) {
	for _, c := range []struct{ text, want string }{
		{"w", ":7, 1 and 0"}, {"5", ":5, 1 and 1"}, {"(5)", ":5, 1 and 1"}, {"_5", ":-5, 1 and 1"}, {"1 2 3", "3:1 2 3, 1 and 3"}, {"w; 1 2; w", ":7, 3 and 2"}, {"1; 2; 3", ":3, 3 and 3"},
		{"w + 1", ":8, 3 and 2"}, {"- w", ":-7, 2 and 1"}, {"2 * 3 + 1", ":8, 5 and 5"}, {"(2 * 3) + 1", ":7, 5 and 5"}, {"10 - 3 - 2", ":9, 5 and 5"}, {"w % 2", ":3, 3 and 2"}, {"2 % w", ":0, 3 and 2"}, {"w | 9", ":7, 3 and 2"}, {"9 | w", ":2, 3 and 2"},
		{"1 2 + 3 4", "2:4 6, 3 and 6"}, {"+/ 1 2 3 4", ":10, 2 and 5"}, {"+\\ 1 2 3", "3:1 3 6, 2 and 6"}, {"-/ 1 2 3", ":2, 2 and 4"}, {"1 2 @- 5 6", "2 2:-4 -5 -3 -4, 3 and 8"}, {"1 2 +.* 3 4", ":11, 3 and 5"}, {"1 2 *.+ 3 4", ":24, 3 and 5"}, {"1 2 3 -.max 2 2 2", ":3, 3 and 7"},
		{"iota 4", "4:0 1 2 3, 2 and 5"}, {"iota 0", "0:, 2 and 1"}, {"2 0 rho 1", "2 0:, 3 and 3"}, {"2 2 rho w", "2 2:7 7 7 7, 3 and 6"}, {"rho 5", "0:, 2 and 1"}, {"2 take 5 6 7", "2:5 6, 3 and 6"}, {"2 drop 5 6 7", "1:7, 3 and 5"}, {"5 6 7 iota 7 9", "2:2 3, 3 and 7"}, {"1 2 match 1 2", ":1, 3 and 5"}, {"1 from 4 5", ":5, 3 and 4"}, {"(grade 3 1 2) from 3 1 2", "3:1 2 3, 4 and 12"},
	} {
		checkRun(t, c.text, plenty(), c.want)
	}
}

func TestNamesOfRuns(t *testing.T) {
	for _, c := range []struct{ text, want string }{
		{"x := 3; x", ":3, 2 and 1"}, {"x := 3; x := x + x; x", ":6, 5 and 2"}, {"w := 1; w", ":1, 2 and 1"}, {"w := w + 1; w := w + 1; w", ":9, 7 and 4"}, {"w; w := 1", ":7, 2 and 1"}, {"a := 5; a", ":5, 2 and 1"},
		{"x", "error 10, 1 and 0"}, {"a", "error 10, 1 and 0"}, {"W 1", "error 10, 2 and 1"}, {"x := x", "error 10, 1 and 0"}, {"1 + x", "error 10, 1 and 0"}, {"x + 1", "error 10, 2 and 1"}, {"x; x := 1", "error 10, 1 and 0"}, {"ww", "error 10, 1 and 0"}, {"x := 1; xx", "error 10, 2 and 1"}, {"x := 1; X 1", "error 10, 3 and 2"},
		// A call's own names come first, then those of the program.
		{"F := {w}; F 1", ":1, 3 and 1"}, {"F := {w}; F w", ":7, 3 and 0"}, {"F := {w}; (F 1) + w", ":8, 5 and 2"}, {"F := {a}; F 1", "error 10, 3 and 1"}, {"F := {a}; 2 F 1", ":2, 4 and 2"}, {"F := {a - w}; 2 F 1", ":1, 6 and 3"}, {"a := 5; F := {a}; F 1", ":5, 4 and 2"}, {"a := 5; F := {a}; 2 F 1", ":2, 5 and 3"}, {"a := 5; F := {a}; 2 F 1; a", ":5, 6 and 3"}, {"a := 5; F := {w}; 2 F a", ":5, 5 and 2"},
		{"F := {w}; 2 F 1; a", "error 10, 5 and 2"}, {"F := {a}; G := {F w}; 2 G 1", "error 10, 6 and 2"}, {"a := 5; F := {a}; G := {F w}; 2 G 1", ":5, 7 and 3"}, {"F := {a}; G := {a F w}; 2 G 1", ":2, 7 and 2"}, {"F := {w}; G := {(F 3) + w}; G 1", ":4, 7 and 3"},
		{"F := {x}; x := 1; F 2", ":1, 4 and 2"}, {"x := 1; F := {x}; x := 2; F 3", ":2, 5 and 3"}, {"F := {x}; F 1; x := 2", "error 10, 3 and 1"}, {"x := 1; F := {x}; x := F 3; x", ":1, 5 and 2"},
		// A function is what its name is bound to when it is called.
		{"F 1; F := {w}", "error 10, 2 and 1"}, {"F := {1}; F := {2}; F 0", ":2, 3 and 2"}, {"F := {1}; F 0; F := {2}", ":1, 3 and 2"}, {"F := {1}; G := {F w}; F := {2}; G 0", ":2, 5 and 2"}, {"G := {F w}; F := {w}; G 4", ":4, 5 and 1"}, {"F := {G w}; F 1", "error 10, 4 and 1"}, {"F := {w}; 1 G 2", "error 10, 3 and 2"}, {"F := {w}; FF 2", "error 10, 2 and 1"},
		{"self 1", "error 10, 2 and 1"}, {"1 self 2", "error 10, 3 and 2"}, {"F := {w}; F 1; self 1", "error 10, 5 and 2"}, {"F := {w}; self F 1", "error 10, 4 and 1"},
		{"F := {w = 0 : 9; self w - 1}; F 1", ":9, 13 and 8"}, {"F := {w = 0 : 9; self w - 1}; G := {F w}; G 0", ":9, 8 and 4"}, {"F := {w = 0 : a; w self w - 1}; F 2", ":1, 22 and 11"},
		// self is the function whose body is being done, not the one that called it.
		{"F := {w = 0 : 5; self 0}; G := {w = 0 : 6; F w}; G 1", ":5, 16 and 9"},
	} {
		checkRun(t, c.text, plenty(), c.want)
	}
}

func TestRightBeforeLeft(t *testing.T) {
	for _, c := range []struct{ text, want string }{
		{"x + 1 % 0", "error 1, 3 and 2"}, {"(1 % 0) + x", "error 10, 1 and 0"}, {"(1 % 0) + 1 2 + 1 2 3", "error 3, 3 and 5"}, {"(1 2 + 1 2 3) + 1 % 0", "error 1, 3 and 2"}, {"(~ 2) + iota 1 2", "error 2, 2 and 2"}, {"(roll 100) - roll 100", ":23, 5 and 5"}, {"F := {w - a}; (roll 100) F roll 100", ":-23, 8 and 5"},
		{"x F 1 % 0", "error 1, 3 and 2"}, {"(x) F 1", "error 10, 2 and 1"}, {"(1 % 0) F y", "error 10, 1 and 0"},
	} {
		checkRun(t, c.text, plenty(), c.want)
	}
}

func TestCodesOfKernelsInRuns(t *testing.T) {
	for _, c := range []struct{ text, want string }{
		{"1 % 0", "error 1, 3 and 2"}, {"~ 2", "error 1, 2 and 1"}, {"iota _1", "error 1, 2 and 1"}, {"</ iota 0", "error 1, 3 and 1"}, {"2 _1 rho 5", "error 1, 3 and 3"},
		{"iota 1 2", "error 2, 2 and 2"}, {"grade 5", "error 2, 2 and 1"}, {"1 2 + 1 1 rho 3", "error 2, 5 and 6"}, {"1 2 take 3", "error 2, 3 and 3"}, {"1 +.* 2", "error 2, 3 and 2"}, {"0 from 5", "error 2, 3 and 2"}, {"5 iota 5", "error 2, 3 and 2"},
		{"1 2 + 1 2 3", "error 3, 3 and 5"}, {"1 2 +.* 1 2 3", "error 3, 3 and 5"}, {"3 rho iota 0", "error 3, 4 and 2"},
		{"3 from 1 2 3", "error 4, 3 and 4"}, {"_1 from 1 2 3", "error 4, 3 and 4"},
		{"1 + 3000000000", "error 5, 3 and 2"}, {"_3000000000 - 1", "error 5, 3 and 2"}, {"*/ 60000 60000", "error 5, 2 and 2"}, {"+\\ 3000000000 1", "error 5, 2 and 2"}, {"60000 @* 60000", "error 5, 3 and 2"},
		{"iota 1001", "error 6, 2 and 1"}, {"(iota 32) @+ iota 32", "error 6, 5 and 66"}, {"1 1 1 1 rho 5", "error 6, 3 and 5"}, {"1001 take 5", "error 6, 3 and 2"},
		// A code ends the run at once; nothing behind it is done.
		{"1 % 0; 5", "error 1, 3 and 2"}, {"5; x := 1 % 0", "error 1, 4 and 3"}, {"5; 1 % 0", "error 1, 4 and 3"}, {"F := {1 % w}; F 0; 5", "error 1, 5 and 2"}, {"F := {1 % w}; G := {1 + F w}; G 0", "error 1, 7 and 2"},
	} {
		checkRun(t, c.text, plenty(), c.want)
	}
}

func TestRunsWithoutAValue(t *testing.T) {
	for _, c := range []struct{ text, want string }{
		{"", "error 12, 0 and 0"}, {" ; \n # w", "error 12, 0 and 0"}, {"x := 1 2", "error 12, 1 and 2"}, {"F := {w}", "error 12, 0 and 0"}, {"x := 1; F := {x}; x := F 1", "error 12, 4 and 2"}, {"w; x := 1; F := {w}", ":7, 2 and 1"},
	} {
		checkRun(t, c.text, plenty(), c.want)
	}
	// What is used up is no harm where no step comes any more.
	checkRun(t, "", within(0, 0), "error 12, 0 and 0")
	checkRun(t, "F := {w}", within(0, 0), "error 12, 0 and 0")
	checkRun(t, "x := 1 2", within(1, 2), "error 12, 1 and 2")
	checkRun(t, "x := 1 2", within(0, 2), "fuel, 0 and 0")
	checkRun(t, "x := 1 2", within(1, 1), "cells, 1 and 0")
}

func TestGuards(t *testing.T) {
	for _, c := range []struct{ text, want string }{
		{"F := {w : 10; 20}; F 1", ":10, 4 and 2"}, {"F := {w : 10; 20}; F 0", ":20, 4 and 2"}, {"F := {0 : 10; 1 : 11; 1 : 12; 13}; F 0", ":11, 5 and 4"}, {"F := {0 : 10; 0 : 11; 13}; F 0", ":13, 5 and 4"}, {"F := {w : 1; ~ w : 2; 3}; F 0", ":2, 6 and 3"},
		{"F := {1 : w; x}; F 5", ":5, 4 and 2"}, {"F := {0 : x; w}; F 5", ":5, 4 and 2"}, {"F := {1 : w; 1 % 0 : 3; 4}; F 5", ":5, 4 and 2"}, {"F := {a = w : a; w}; 1 F 2", ":2, 7 and 3"}, {"F := {a = w : a + w; w}; 2 F 2", ":4, 9 and 4"},
		// One cell of any shape will do.
		{"F := {w : 1; 2}; F 1 rho 1", ":1, 6 and 4"}, {"F := {w : 1; 2}; F 1 1 rho 0", ":2, 6 and 5"}, {"F := {w : 1; 2}; F 1 1 1 rho 1", ":1, 6 and 6"}, {"F := {w : 1; 2}; F 1 1 1 rho 0", ":2, 6 and 6"},
		{"F := {w : 1; 2}; F 2", "error 1, 3 and 1"}, {"F := {w : 1; 2}; F _1", "error 1, 3 and 1"}, {"F := {w : 1; 2}; F 3000000000", "error 1, 3 and 1"}, {"F := {w : 1; 2}; F 1 1", "error 1, 3 and 2"}, {"F := {w : 1; 2}; F 0 0", "error 1, 3 and 2"}, {"F := {w : 1; 2}; F 1 0", "error 1, 3 and 2"}, {"F := {w : 1; 2}; F 0 1", "error 1, 3 and 2"}, {"F := {w : 1; 2}; F iota 0", "error 1, 4 and 1"}, {"F := {w : 1; 2}; F 1 0 rho 1", "error 1, 5 and 3"}, {"F := {w : 1; 2}; F 1 1 rho 2", "error 1, 5 and 4"}, {"F := {w : 1; 2}; F 1 1 1 rho 2", "error 1, 5 and 5"}, {"F := {0 : 1; w : 1; 2}; F 2", "error 1, 4 and 2"},
		// The codes of a guard's own steps are theirs.
		{"F := {1 2 + 1 2 3 : 1; 2}; F 0", "error 3, 5 and 6"}, {"F := {x : 1; 2}; F 0", "error 10, 3 and 1"}, {"F := {1 : x; 2}; F 0", "error 10, 4 and 2"},
	} {
		checkRun(t, c.text, plenty(), c.want)
	}
}

func TestDepthOfCalls(t *testing.T) {
	const down = "F := {w = 0 : 0; self w - 1}; "
	const both = "F := {w = 0 : 1; (self w - 1) + self w - 1}; "
	for _, c := range []struct{ text, want string }{
		// A call that goes on is 7 steps with the next call, the last one 4.
		{down + "F 0", ":0, 6 and 4"}, {down + "F 49", ":0, 349 and 200"}, {down + "F 50", "error 13, 352 and 201"},
		{"F := {self w}; F 1", "error 13, 102 and 1"}, {"F := {a self w}; 1 F 1", "error 13, 153 and 2"}, {"F := {self w : 1; 2}; F 1", "error 13, 102 and 1"}, {"F := {1 : self w; 2}; F 1", "error 13, 152 and 51"},
		{"F := {w = 0 : 0; G w - 1}; G := {w = 0 : 0; F w - 1}; F 49", ":0, 349 and 200"}, {"F := {w = 0 : 0; G w - 1}; G := {w = 0 : 0; F w - 1}; F 50", "error 13, 352 and 201"},
		{"F := {w = 0 : 0; a self w - 1}; 5 F 49", ":0, 399 and 201"}, {"F := {w = 0 : 0; a self w - 1}; 5 F 50", "error 13, 403 and 202"},
		// The name is looked for ahead of the depth.
		{"F := {w = 0 : G w; self w - 1}; F 49", "error 10, 350 and 199"}, {"G := {w}; F := {w = 0 : G w; self w - 1}; F 49", "error 13, 350 and 199"}, {"G := {w}; F := {w = 0 : G w; self w - 1}; F 48", ":0, 344 and 195"},
		// Calls that are done already do not count, one after the other or as what is given to the next.
		{down + "F 49; F 49; F 49", ":0, 1047 and 600"}, {down + "(F 49) + F 49", ":0, 699 and 401"}, {down + "F F F 49", ":0, 359 and 206"}, {both + "F 3", ":8, 118 and 74"},
		{"F := {w + 1}; " + strings.Repeat("F ", 100) + "0", ":100, 401 and 201"},
		{"F := {w + 1}; " + strings.Repeat("x := F 0; ", 100) + "x", ":1, 501 and 300"},
	} {
		checkRun(t, c.text, plenty(), c.want)
	}
}

func TestRoll(t *testing.T) {
	last := plenty()
	last.Seed = 2147483646
	none := plenty()
	none.Roll = false
	for _, c := range []struct {
		text string
		l    impl.Limits
		want string
	}{
		// From 1 the states are 48271, 182605794, 1291394886, 1914720637.
		{"roll 3000000000", plenty(), ":48271, 2 and 2"}, {"roll 3000000000 3000000000 3000000000 3000000000", plenty(), "4:48271 182605794 1291394886 1914720637, 2 and 8"}, {"roll 10 100 1000", plenty(), "3:1 94 886, 2 and 6"}, {"roll 1", plenty(), ":0, 2 and 2"}, {"roll 1 1 10", plenty(), "3:0 0 6, 2 and 6"},
		{"roll 48271", plenty(), ":0, 2 and 2"}, {"roll 48270", plenty(), ":1, 2 and 2"}, {"roll 48272", plenty(), ":48271, 2 and 2"}, {"roll 2147483647", last, ":2147435376, 2 and 2"}, {"roll 3000000000 10", last, "2:2147435376 3, 2 and 4"}, {"roll 2147435376", last, ":0, 2 and 2"},
		{"roll 10; roll 10; roll 10", plenty(), ":6, 6 and 6"}, {"x := roll 10; roll 10", plenty(), ":4, 4 and 4"}, {"roll 2 2 rho 10", plenty(), "2 2:1 4 6 7, 4 and 11"}, {"roll 1 1 1 rho 10", plenty(), "1 1 1:1, 4 and 6"}, {"F := {roll w}; (F 100) - roll 100", plenty(), ":23, 7 and 5"}, {"F := {(roll 2) < 0 : 1; roll w}; F 100", plenty(), ":94, 8 and 6"},
		{"roll iota 0", plenty(), "0:, 3 and 1"}, {"roll 0 3 rho 0", plenty(), "0 3:, 4 and 3"}, {"(roll 10) cat roll iota 0", plenty(), "1:1, 6 and 4"}, {"roll 5 0 rho 0", last, "5 0:, 4 and 3"},
		{"roll 0", plenty(), "error 1, 2 and 1"}, {"roll _1", plenty(), "error 1, 2 and 1"}, {"roll 5 5 0", plenty(), "error 1, 2 and 3"}, {"roll 0 5 5", last, "error 1, 2 and 3"}, {"roll 3 _3000000000", plenty(), "error 1, 2 and 2"},
		{"roll 5", none, "error 11, 2 and 1"}, {"roll 0", none, "error 11, 2 and 1"}, {"roll iota 0", none, "error 11, 3 and 1"}, {"F := {roll w}; F 5", none, "error 11, 4 and 1"}, {"1 % 0; roll 5", none, "error 1, 3 and 2"}, {"roll x", none, "error 10, 1 and 0"}, {"F := {roll w}; 5", none, ":5, 1 and 1"}, {"F := {1 : 2; roll w}; F 5", none, ":2, 4 and 3"},
	} {
		checkRun(t, c.text, c.l, c.want)
	}
}

func TestLastUnits(t *testing.T) {
	for _, c := range []struct {
		text        string
		fuel, cells int
		want        string
	}{
		{"w", 1, 0, ":7, 1 and 0"}, {"w", 0, 0, "fuel, 0 and 0"}, {"5", 1, 1, ":5, 1 and 1"}, {"5", 0, 1, "fuel, 0 and 0"}, {"5", 1, 0, "cells, 1 and 0"}, {"5", 0, 0, "fuel, 0 and 0"}, {"1 2 3", 1, 2, "cells, 1 and 0"}, {"1 2 3", 1, 3, "3:1 2 3, 1 and 3"},
		{"w + 1 2", 3, 4, "2:8 9, 3 and 4"}, {"w + 1 2", 3, 3, "cells, 3 and 2"}, {"w + 1 2", 2, 4, "fuel, 2 and 2"}, {"w + 1 2", 2, 1, "cells, 1 and 0"}, {"w + 1 2", 1, 4, "fuel, 1 and 2"}, {"w + 1 2", 1, 2, "fuel, 1 and 2"},
		// An array without cells uses none; a name and a call never do.
		{"iota 0", 2, 1, "0:, 2 and 1"}, {"iota 0", 2, 0, "cells, 1 and 0"}, {"F := {w}; F w", 3, 0, ":7, 3 and 0"}, {"F := {w}; F w", 2, 0, "fuel, 2 and 0"}, {"F := {w}; F w", 1, 0, "fuel, 1 and 0"}, {"F := {w}; w F w", 4, 0, ":7, 4 and 0"}, {"x := w; x", 2, 0, ":7, 2 and 0"},
		// A code comes where no array is put, whatever cells are left, but not without Fuel for the step.
		{"1 % 0", 3, 2, "error 1, 3 and 2"}, {"1 % 0", 2, 2, "fuel, 2 and 2"}, {"1 % 0", 3, 1, "cells, 2 and 1"}, {"1 2 + 1 2 3", 3, 5, "error 3, 3 and 5"}, {"iota 1001", 2, 1, "error 6, 2 and 1"}, {"iota 1000", 2, 1000, "cells, 2 and 1"}, {"x", 1, 0, "error 10, 1 and 0"}, {"x", 0, 0, "fuel, 0 and 0"}, {"F w", 2, 0, "error 10, 2 and 0"}, {"F w", 1, 0, "fuel, 1 and 0"}, {"roll w", 2, 0, "cells, 2 and 0"}, {"roll w", 2, 1, ":6, 2 and 1"}, {"roll w", 1, 1, "fuel, 1 and 0"}, {"roll 0", 2, 1, "error 1, 2 and 1"},
		{"F := {self w}; F w", 52, 0, "fuel, 52 and 0"}, {"F := {self w}; F w", 102, 0, "error 13, 102 and 0"}, {"F := {self w}; F w", 101, 0, "fuel, 101 and 0"},
		{"F := {0 : 1; w}; F w", 4, 1, ":7, 4 and 1"}, {"F := {0 : 1; w}; F w", 4, 0, "cells, 3 and 0"}, {"F := {0 : 1; w}; F w", 3, 1, "fuel, 3 and 1"}, {"F := {2 : 1; w}; F w", 3, 1, "error 1, 3 and 1"}, {"F := {2 : 1; w}; F w", 2, 1, "fuel, 2 and 0"},
		{"5; w", 1, 1, "fuel, 1 and 1"}, {"5; 6", 2, 1, "cells, 2 and 1"}, {"5; F := {6}", 1, 1, ":5, 1 and 1"},
	} {
		checkRun(t, c.text, within(c.fuel, c.cells), c.want)
	}
}

func TestGreatestBudgets(t *testing.T) {
	// 100000 steps without a cell: 99 calls of a body of 1000 steps, the call
	// around them, and names.
	fuel := "F := {" + strings.Repeat("-", 999) + "w}; G := {" + strings.Repeat("F ", 99) + "w}; G w" + strings.Repeat(";w", 898)
	checkRunWith(t, fuel, vectorOf(), plenty(), "0:, 100000 and 0")
	checkRunWith(t, fuel+";w", vectorOf(), plenty(), "fuel, 100000 and 0")
	cells := "x := iota 1000; " + strings.Repeat("- x; ", 98) + "iota 998; w"
	checkRun(t, cells, plenty(), ":7, 201 and 100000")
	checkRun(t, cells+";iota 0", plenty(), "cells, 202 and 100000")
	checkRun(t, cells+";5", plenty(), "cells, 202 and 100000")
	checkRun(t, cells+";- x", plenty(), "cells, 203 and 100000")
	// 2 to the power of 40 calls would be done without a limit.
	const tree = "F := {w = 0 : 1; (self w - 1) + self w - 1}; F 40"
	if o := impl.Run(parsed(t, tree, 0, 0), scalarOf(7), plenty()); o.Kind != impl.DidFuel || o.Fuel != impl.MaxBudget || o.Cells > impl.MaxBudget {
		t.Errorf("%s", told(o))
	}
}

func literal(a impl.Array) []impl.Step {
	nums := slices.Clone(a.Data)
	if len(nums) == 0 {
		nums = []int{5}
	}
	if len(a.Shape) == 0 {
		return []impl.Step{numsStep(nums...)}
	}
	return []impl.Step{numsStep(nums...), numsStep(a.Shape...), twoStep(impl.FnDyad, impl.DyaReshape)}
}

// Each function of the table is the kernel of chapter 2 that it stands for,
// with a to the left and w to the right.
func TestEachFunctionInRuns(t *testing.T) {
	for _, w := range pool() {
		for _, f := range inFront() {
			if f.fn.Kind != impl.FnRoll {
				want, code := modelOne(f.fn, w)
				checkKernel(t, program(value(stepW, impl.Step{Kind: impl.StepOne, Fn: f.fn})), w, f.text, 2, 0, want, code)
			}
		}
		if len(w.Data) > 100 {
			continue
		}
		for _, a := range pool() {
			if len(a.Data) > 100 {
				continue
			}
			name := impl.Stmt{Kind: impl.StmtName, Name: "x", Code: literal(a)}
			before := impl.Run(program(name, value(nameStep("x"))), w, plenty())
			if before.Kind != impl.DidValue || !same(before.Value, a) {
				t.Fatalf("%v is %s", a, told(before))
			}
			for _, f := range between() {
				if f.fn.Kind != impl.FnInner || f.fn.A%3 == 1 {
					want, code := modelTwo(f.fn, a, w)
					checkKernel(t, program(name, value(stepW, nameStep("x"), impl.Step{Kind: impl.StepTwo, Fn: f.fn})), w, f.text, before.Fuel+2, before.Cells, want, code)
				}
			}
		}
	}
}

func checkKernel(t *testing.T, p []impl.Stmt, w impl.Array, text string, fuel, cells int, want impl.Array, code int) {
	t.Helper()
	wanted := impl.Outcome{Kind: impl.DidValue, Value: want, Fuel: fuel, Cells: cells + len(want.Data)}
	if code != 0 {
		wanted.Kind, wanted.Code = impl.DidError, code
	}
	if got := told(impl.Run(p, w, plenty())); got != told(wanted) {
		t.Errorf("%s with %v: %s, want %s", text, w.Shape, short(got), short(told(wanted)))
	}
}
