package tests

import (
	"slices"
	"strings"
	"testing"

	"loop.example/s02135/impl"
)

func checkNothing(t *testing.T, what string, p []impl.Stmt, w impl.Array, l impl.Limits) {
	t.Helper()
	if got := told(impl.Run(p, w, l)); got != "nothing" {
		t.Errorf("%s: %s", what, got)
	}
}

func TestRunsOfWrongArrays(t *testing.T) {
	for _, w := range badArrays() {
		for _, text := range []string{"", "5", "w", "F := {w}", "1 % 0"} {
			checkNothing(t, text, parsed(t, text, 0, 0), w, plenty())
		}
		checkNothing(t, "all wrong", program(impl.Stmt{}), w, impl.Limits{})
		checkNothing(t, "wrong limits too", program(value(stepW)), w, within(-1, 0))
	}
	for _, w := range pool() {
		if o := impl.Run(program(value(stepW)), w, within(1, 0)); o.Kind != impl.DidValue || !same(o.Value, w) {
			t.Errorf("%v: %s", w.Shape, told(o))
		}
	}
}

func TestRunsOfWrongLimits(t *testing.T) {
	for _, l := range []impl.Limits{{}, within(-1, 5), within(5, -1), within(impl.MaxBudget+1, 5), within(5, impl.MaxBudget+1), {Fuel: 5, Cells: 5, Seed: 2147483647}, {Fuel: 5, Cells: 5, Seed: -1, Roll: true}} {
		for _, text := range []string{"", "5", "w", "1 % 0", "roll 5"} {
			checkNothing(t, text, parsed(t, text, 0, 0), scalarOf(7), l)
		}
	}
}

func TestRunsOfWrongPrograms(t *testing.T) {
	code := []impl.Step{stepW}
	wrong := []impl.Stmt{
		{}, {Kind: 4, Code: code}, {Kind: impl.StmtValue}, {Kind: impl.StmtValue, Name: "x", Code: code}, {Kind: impl.StmtName, Code: code}, {Kind: impl.StmtName, Name: "F", Code: code}, {Kind: impl.StmtName, Name: "take", Code: code}, {Kind: impl.StmtFunc, Name: "x", Code: code}, {Kind: impl.StmtFunc, Name: "self", Code: code}, {Kind: impl.StmtFunc, Name: "F"}, {Kind: impl.StmtFunc, Name: "F", Code: code, Guards: []impl.Guard{{Test: code}}}, {Kind: impl.StmtFunc, Name: "F", Code: code, Guards: []impl.Guard{{Then: code}}}, {Kind: impl.StmtValue, Code: code, Guards: []impl.Guard{{Test: code, Then: code}}},
		value(stepNeg), value(stepW, stepAdd), value(stepW, stepW), value(nameStep("F")), value(nameStep("")), value(numsStep()), value(numsStep(impl.MaxValue + 1)), value(numsStep(make([]int, impl.MaxCells+1)...)), value(impl.Step{Kind: 5, Name: "w"}), value(impl.Step{Kind: impl.StepName, Name: "w", Nums: []int{1}}),
		value(stepW, impl.Step{Kind: impl.StepOne}), value(stepW, impl.Step{Kind: impl.StepOne, Fn: stepAdd.Fn}), value(stepW, stepW, impl.Step{Kind: impl.StepTwo, Fn: stepNeg.Fn}), value(stepW, oneStep(impl.FnRoll, 1)), value(stepW, oneStep(impl.FnMonad, 8)), value(stepW, oneStep(impl.FnReduce, 11)), value(stepW, stepW, twoStep(impl.FnDyad, 0)), value(stepW, stepW, twoStep(impl.FnInner, 1)), value(stepW, stepW, twoStep(impl.FnRoll, 0)), value(stepW, impl.Step{Kind: impl.StepOne, Fn: impl.Fn{Kind: impl.FnCall, Name: "f"}}), value(stepW, impl.Step{Kind: impl.StepOne, Fn: impl.Fn{Kind: impl.FnCall}}),
		value(leftDeep(impl.MaxNest + 1)...),
	}
	for _, s := range wrong {
		checkNothing(t, "a wrong statement", program(s), scalarOf(7), plenty())
		// Nothing is run, however far the wrong statement is from the front.
		checkNothing(t, "at the end", program(value(stepW), s), scalarOf(7), plenty())
		checkNothing(t, "behind an error", program(value(nameStep("x")), s), scalarOf(7), plenty())
		checkNothing(t, "behind the last fuel", program(value(stepW), s), scalarOf(7), within(0, 0))
		checkNothing(t, "at the front", program(s, value(stepW)), scalarOf(7), plenty())
	}
	if o := impl.Run(program(value(leftDeep(impl.MaxNest)...)), scalarOf(7), plenty()); told(o) != ":273, 82 and 41" {
		t.Errorf("%s", told(o))
	}
}

func TestRunsOfSpoiledPrograms(t *testing.T) {
	a := &author{dice: dice{31}, grammar: newGrammar()}
	ran, refused := 0, 0
	for range 20000 {
		p := a.program()
		if len(p) > 0 && a.throw(2) == 0 {
			a.spoiled(p)
		}
		wellFormed := true
		for _, s := range p {
			_, ok := a.line(s)
			wellFormed = wellFormed && ok
		}
		if !wellFormed {
			refused++
			checkNothing(t, "a spoiled program", p, scalarOf(7), within(100, 100))
			continue
		}
		ran++
		checkAgainstModel(t, "by an author", p, scalarOf(7), within(100, 100))
	}
	if ran < 5000 || refused < 5000 {
		t.Errorf("%d ran, %d were refused", ran, refused)
	}
}

// A program is well formed even when its text is too long for Parse.
func TestRunsOfLongTexts(t *testing.T) {
	p := append(slices.Repeat(program(value(numsStep(-impl.MaxValue))), 3000), value(stepW))
	if text, ok := impl.Print(p); ok {
		t.Errorf("a text of %d bytes", len(text))
	}
	if o := impl.Run(p, scalarOf(7), plenty()); told(o) != ":7, 3001 and 3000" {
		t.Errorf("%s", told(o))
	}
	name := nameStep(strings.Repeat("n", 20))
	sum := append([]impl.Step{name}, slices.Repeat([]impl.Step{name, stepAdd}, 2000)...)
	p = program(impl.Stmt{Kind: impl.StmtName, Name: name.Name, Code: []impl.Step{stepW}}, value(sum...))
	if o := impl.Run(p, scalarOf(1), plenty()); told(o) != ":2001, 4002 and 2000" {
		t.Errorf("%s", told(o))
	}
}

// The last item that fits, and the one behind it, of each kind.
func TestMostItems(t *testing.T) {
	const most = 4 * impl.MaxText
	neg := func(n int) []impl.Step {
		return append([]impl.Step{stepW}, slices.Repeat([]impl.Step{stepNeg}, n-1)...)
	}
	guards := func(n int) []impl.Guard {
		return slices.Repeat([]impl.Guard{{Test: []impl.Step{stepW}, Then: []impl.Step{stepW}}}, n)
	}
	function := func(code []impl.Step, guards ...impl.Guard) impl.Stmt {
		return impl.Stmt{Kind: impl.StmtFunc, Name: "F", Code: code, Guards: guards}
	}
	nums := func(n int) []impl.Step { return []impl.Step{numsStep(make([]int, n)...)} }
	cases := []struct {
		what string
		p    func(n int) []impl.Stmt
	}{
		{"statements", func(n int) []impl.Stmt {
			return append(slices.Repeat(program(value(stepW)), n/2-1), value(neg(1+n%2)...))
		}},
		{"steps", func(n int) []impl.Stmt { return program(value(neg(n - 1)...)) }},
		{"steps of a function", func(n int) []impl.Stmt { return program(function(neg(n-3)), value(stepW)) }},
		{"numbers", func(n int) []impl.Stmt {
			return append(slices.Repeat(program(value(nums(1000)...)), 15), value(nums(n-15*1002-2)...))
		}},
		{"guards", func(n int) []impl.Stmt {
			return program(value(stepW), function(neg(1+(n-4)%3), guards((n-4)/3)...))
		}},
		{"steps of a test", func(n int) []impl.Stmt {
			return program(value(stepW), function(neg(1), impl.Guard{Test: neg(n - 6), Then: neg(1)}))
		}},
		{"steps of a then", func(n int) []impl.Stmt {
			return program(value(stepW), function(neg(1), impl.Guard{Test: neg(1), Then: neg(n - 6)}))
		}},
		{"numbers of a test and a then", func(n int) []impl.Stmt {
			full := slices.Repeat([]impl.Guard{{Test: nums(1000), Then: nums(999)}}, 7)
			return program(value(stepW), function(neg(1), append(full, impl.Guard{Test: nums(1), Then: neg(n - 4 - 7*2002 - 3)})...))
		}},
	}
	for _, c := range cases {
		for _, n := range []int{most - 1, most, most + 1, most + 2} {
			p := c.p(n)
			if got := items(p); got != n {
				t.Errorf("%s: the test's program has %d items, not %d", c.what, got, n)
			}
			if o := impl.Run(p, scalarOf(7), plenty()); (o.Kind == impl.DidValue) != (n <= most) || n > most && told(o) != "nothing" {
				t.Errorf("%s, %d items: %s", c.what, n, short(told(o)))
			}
		}
	}
}

func items(p []impl.Stmt) int {
	n := len(p)
	code := func(steps []impl.Step) {
		n += len(steps)
		for _, s := range steps {
			n += len(s.Nums)
		}
	}
	for _, s := range p {
		code(s.Code)
		n += len(s.Guards)
		for _, g := range s.Guards {
			code(g.Test)
			code(g.Then)
		}
	}
	return n
}

func TestRunsOfListsWithoutEnd(t *testing.T) {
	const many = 1 << 16
	code := slices.Repeat([]impl.Step{{Kind: impl.StepNums, Nums: make([]int, many)}}, many)
	guards := slices.Repeat([]impl.Guard{{Test: code, Then: code}}, many)
	checkNothing(t, "lists without end", slices.Repeat([]impl.Stmt{{Kind: impl.StmtFunc, Name: "F", Code: code, Guards: guards}}, many), scalarOf(7), plenty())
}
