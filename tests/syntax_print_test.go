package tests

import (
	"slices"
	"strings"
	"testing"

	"loop.example/s02135/impl"
)

func numsStep(nums ...int) impl.Step { return impl.Step{Kind: impl.StepNums, Nums: nums} }

func nameStep(name string) impl.Step { return impl.Step{Kind: impl.StepName, Name: name} }

func oneStep(kind, a int) impl.Step {
	return impl.Step{Kind: impl.StepOne, Fn: impl.Fn{Kind: kind, A: a}}
}

func twoStep(kind, a int) impl.Step {
	return impl.Step{Kind: impl.StepTwo, Fn: impl.Fn{Kind: kind, A: a}}
}

func value(steps ...impl.Step) impl.Stmt { return impl.Stmt{Kind: impl.StmtValue, Code: steps} }

func program(stmts ...impl.Stmt) []impl.Stmt { return stmts }

var (
	stepW   = nameStep("w")
	stepNeg = oneStep(impl.FnEach1, impl.OneNeg)
	stepAdd = twoStep(impl.FnEach2, impl.OpAdd)
)

func TestPrintedTexts(t *testing.T) {
	steps := func(list ...impl.Step) []impl.Step { return list }
	call := impl.Fn{Kind: impl.FnCall, Name: "Go"}
	for want, p := range map[string][]impl.Stmt{
		"":                              nil,
		"w\n":                           program(value(stepW)),
		"w\n1\n":                        program(value(stepW), value(numsStep(1))),
		"0 _1 3000000000 _3000000000\n": program(value(numsStep(0, -1, impl.MaxValue, -impl.MaxValue))),
		"- w\n":                         program(value(stepW, stepNeg)),
		"- - 1 2\n":                     program(value(numsStep(1, 2), stepNeg, stepNeg)),
		"w + 1\n":                       program(value(numsStep(1), stepW, stepAdd)),
		"1 2 + w\n":                     program(value(stepW, numsStep(1, 2), stepAdd)),
		"w + w + w\n":                   program(value(stepW, stepW, stepAdd, stepW, stepAdd)),
		"(w + w) + w\n":                 program(value(stepW, stepW, stepW, stepAdd, stepAdd)),
		"(- w) + - w\n":                 program(value(stepW, stepNeg, stepW, stepNeg, stepAdd)),
		"((w + w) + w) + w\n":           program(value(stepW, stepW, stepW, stepW, stepAdd, stepAdd, stepAdd)),
		"(- (- w) + w) + w\n":           program(value(stepW, stepW, stepW, stepNeg, stepAdd, stepNeg, stepAdd)),
		"+/ w\n":                        program(value(stepW, oneStep(impl.FnReduce, impl.OpAdd))),
		"max\\ +/ w\n":                  program(value(stepW, oneStep(impl.FnReduce, impl.OpAdd), oneStep(impl.FnScan, impl.OpMax))),
		"w @min w\n":                    program(value(stepW, stepW, twoStep(impl.FnOuter, impl.OpMin))),
		"w min.| w\n":                   program(value(stepW, stepW, impl.Step{Kind: impl.StepTwo, Fn: impl.Fn{Kind: impl.FnInner, A: impl.OpMin, B: impl.OpMod}})),
		"(+\\ w) @+ roll w\n":           program(value(stepW, oneStep(impl.FnRoll, 0), stepW, oneStep(impl.FnScan, impl.OpAdd), twoStep(impl.FnOuter, impl.OpAdd))),
		"w Go Go w\n":                   program(value(stepW, impl.Step{Kind: impl.StepOne, Fn: call}, stepW, impl.Step{Kind: impl.StepTwo, Fn: call})),
		"x := w\n":                      program(impl.Stmt{Kind: impl.StmtName, Name: "x", Code: steps(stepW)}),
		"F := {w}\nw\n":                 program(impl.Stmt{Kind: impl.StmtFunc, Name: "F", Code: steps(stepW)}, value(stepW)),
		"F := {w : - w; 1 : 2; (- w) + w}\n": program(impl.Stmt{Kind: impl.StmtFunc, Name: "F", Code: steps(stepW, stepW, stepNeg, stepAdd),
			Guards: []impl.Guard{{Test: steps(stepW), Then: steps(stepW, stepNeg)}, {Test: steps(numsStep(1)), Then: steps(numsStep(2))}}}),
	} {
		if text, ok := impl.Print(p); text != want || !ok {
			t.Errorf("Print: %q %v, want %q", text, ok, want)
		}
		if back := parsed(t, want, 0, 0); !samePrograms(back, p) {
			t.Errorf("Parse(%q): %v", want, back)
		}
	}
}

// Each function of the table has its text in its own place, and is refused in
// the other one and with a field set that it does not use.
func TestPrintOfEachFunction(t *testing.T) {
	places := []struct {
		fns, others []placedFn
		step        impl.Step
		before      string
	}{
		{inFront(), between(), impl.Step{Kind: impl.StepOne}, ""},
		{between(), inFront(), impl.Step{Kind: impl.StepTwo}, "w "},
	}
	for _, place := range places {
		code := func(fn impl.Fn) []impl.Stmt {
			step := place.step
			step.Fn = fn
			return program(value(slices.Concat(slices.Repeat([]impl.Step{stepW}, step.Kind-2), []impl.Step{step})...))
		}
		for _, f := range place.fns {
			if text, ok := impl.Print(code(f.fn)); text != place.before+f.text+" w\n" || !ok {
				t.Errorf("%v: %q %v", f.fn, text, ok)
			}
			b, name := f.fn, f.fn
			b.B = (b.B + 1) * 11
			name.Name = "F"
			refusePrint(t, code(b))
			refusePrint(t, code(name))
		}
		for _, f := range place.others {
			refusePrint(t, code(f.fn))
		}
		for _, kind := range []int{-1, 0, 1, 2, 3, 4, 5, 6, 7, 8, 9, 10, 11} {
			for _, a := range []int{-1, 0, 11, 1 << 40} {
				if kind != impl.FnRoll || a != 0 {
					refusePrint(t, code(impl.Fn{Kind: kind, A: a}))
					refusePrint(t, code(impl.Fn{Kind: kind, A: a, B: 1}))
					refusePrint(t, code(impl.Fn{Kind: kind, A: 1, B: a, Name: "f"}))
				}
			}
		}
		for _, name := range []string{"self", "F", "Abcdefghijabcdefghij"} {
			if text, ok := impl.Print(code(impl.Fn{Kind: impl.FnCall, Name: name})); text != place.before+name+" w\n" || !ok {
				t.Errorf("a call of %s: %q %v", name, text, ok)
			}
			refusePrint(t, code(impl.Fn{Kind: impl.FnCall, Name: name, A: 1}))
			refusePrint(t, code(impl.Fn{Kind: impl.FnCall, Name: name, B: 1}))
		}
		for _, name := range []string{"", "f", "w", "take", "Abcdefghijabcdefghijk", "F ", " F", "F w", "F+", "1", "É", "F_", "F\x00"} {
			refusePrint(t, code(impl.Fn{Kind: impl.FnCall, Name: name}))
		}
	}
}

func refusePrint(t *testing.T, p []impl.Stmt) {
	t.Helper()
	if text, ok := impl.Print(p); text != "" || ok {
		t.Errorf("Print(%v): %q %v", p, short(text), ok)
	}
	// One statement that is not well formed among others is enough.
	good := value(stepW)
	if text, ok := impl.Print(slices.Concat(program(good), p, program(good))); text != "" || ok {
		t.Errorf("Print among others (%v): %q %v", p, short(text), ok)
	}
}

func TestStepsThatAreNoCode(t *testing.T) {
	one := numsStep(1)
	for _, code := range [][]impl.Step{
		{}, {stepNeg}, {stepAdd}, {stepW, stepAdd}, {stepW, stepW}, {stepW, stepW, stepNeg}, {stepNeg, stepW}, {stepW, stepAdd, stepW}, {stepW, stepW, stepAdd, stepAdd}, {stepW, stepW, stepW, stepAdd}, {stepAdd, stepW, stepW},
		{{}}, {{Kind: 5}}, {{Kind: -1, Name: "w"}}, {one, {Kind: 5, Fn: stepNeg.Fn}}, {one, {Kind: 0, Fn: stepNeg.Fn}}, {{Kind: impl.StepNums}}, {{Kind: impl.StepNums, Nums: []int{}}},
		{numsStep(impl.MaxValue + 1)}, {numsStep(1, -impl.MaxValue-1)}, {numsStep(-1 << 63)}, {numsStep(make([]int, impl.MaxCells+1)...)},
		{{Kind: impl.StepNums, Nums: []int{1}, Name: "w"}}, {{Kind: impl.StepNums, Nums: []int{1}, Fn: impl.Fn{B: 1}}}, {{Kind: impl.StepNums, Nums: []int{1}, Fn: stepNeg.Fn}},
		{{Kind: impl.StepName, Name: "w", Nums: []int{0}}}, {{Kind: impl.StepName, Name: "w", Fn: impl.Fn{Name: "F"}}}, {{Kind: impl.StepName, Name: "w", Fn: impl.Fn{Kind: 1}}},
		{one, {Kind: impl.StepOne, Fn: stepNeg.Fn, Name: "w"}}, {one, {Kind: impl.StepOne, Fn: stepNeg.Fn, Nums: []int{1}}}, {one, one, {Kind: impl.StepTwo, Fn: stepAdd.Fn, Name: "w"}}, {one, one, {Kind: impl.StepTwo, Fn: stepAdd.Fn, Nums: []int{1}}},
	} {
		refusePrint(t, program(value(code...)))
		refusePrint(t, program(impl.Stmt{Kind: impl.StmtName, Name: "x", Code: code}))
		for _, guards := range [][]impl.Guard{nil, {{Test: code, Then: []impl.Step{one}}}, {{Test: []impl.Step{one}, Then: code}}} {
			refusePrint(t, program(impl.Stmt{Kind: impl.StmtFunc, Name: "F", Code: code, Guards: guards}))
			if guards != nil {
				refusePrint(t, program(impl.Stmt{Kind: impl.StmtFunc, Name: "F", Code: []impl.Step{one}, Guards: guards}))
			}
		}
	}
}

func TestPrintOfNames(t *testing.T) {
	code := []impl.Step{stepW}
	accept := func(want string, s impl.Stmt) {
		t.Helper()
		if text, ok := impl.Print(program(s)); text != want || !ok {
			t.Errorf("%q %v, want %q", text, ok, want)
		}
	}
	for _, name := range []string{"w", "a", "x1", "aB", "selfish", "abcdefghijabcdefghij"} {
		accept(name+"\n", value(nameStep(name)))
		accept(name+" := w\n", impl.Stmt{Kind: impl.StmtName, Name: name, Code: code})
		refusePrint(t, program(impl.Stmt{Kind: impl.StmtFunc, Name: name, Code: code}))
	}
	for _, name := range []string{"F", "FX", "X1", "Self", "Abcdefghijabcdefghij"} {
		accept(name+" := {w}\n", impl.Stmt{Kind: impl.StmtFunc, Name: name, Code: code})
		refusePrint(t, program(value(nameStep(name))))
		refusePrint(t, program(impl.Stmt{Kind: impl.StmtName, Name: name, Code: code}))
	}
	long := strings.Repeat("a", 1<<20)
	for _, name := range slices.Concat(ownWords, []string{"", " ", "w ", " w", "a b", "a_b", "_a", "1", "1a", "a1_", "é", "aé", "a\n", "a\x00", "a:=", "abcdefghijabcdefghijk", "Abcdefghijabcdefghijk", long}) {
		refusePrint(t, program(value(nameStep(name))))
		refusePrint(t, program(impl.Stmt{Kind: impl.StmtName, Name: name, Code: code}))
		refusePrint(t, program(impl.Stmt{Kind: impl.StmtFunc, Name: name, Code: code}))
	}
}

func TestStatementsWithFieldsNotUsed(t *testing.T) {
	code := []impl.Step{stepW}
	guards := []impl.Guard{{Test: code, Then: code}}
	for _, s := range []impl.Stmt{
		{}, {Code: code}, {Kind: -1, Code: code}, {Kind: 4, Code: code}, {Kind: 4, Name: "F", Code: code, Guards: guards},
		{Kind: impl.StmtValue}, {Kind: impl.StmtValue, Name: "x", Code: code}, {Kind: impl.StmtValue, Name: "F", Code: code}, {Kind: impl.StmtValue, Code: code, Guards: guards},
		{Kind: impl.StmtName, Name: "x"}, {Kind: impl.StmtName, Code: code}, {Kind: impl.StmtName, Name: "x", Code: code, Guards: guards},
		{Kind: impl.StmtFunc, Name: "F"}, {Kind: impl.StmtFunc, Name: "F", Guards: guards}, {Kind: impl.StmtFunc, Code: code, Guards: guards}, {Kind: impl.StmtFunc, Name: "F", Code: code, Guards: []impl.Guard{{}}}, {Kind: impl.StmtFunc, Name: "F", Code: code, Guards: append(guards, impl.Guard{Test: code})},
	} {
		refusePrint(t, program(s))
	}
	// It makes no difference whether an empty list is nil.
	empty := impl.Step{Kind: impl.StepName, Name: "w", Nums: []int{}}
	if text, ok := impl.Print(program(impl.Stmt{Kind: impl.StmtValue, Code: []impl.Step{empty}, Guards: []impl.Guard{}})); text != "w\n" || !ok {
		t.Errorf("%q %v", text, ok)
	}
	if text, ok := impl.Print([]impl.Stmt{}); text != "" || !ok {
		t.Errorf("%q %v", text, ok)
	}
}

// leftDeep has so many brackets inside of each other in its Print.
func leftDeep(n int) []impl.Step {
	code := slices.Repeat([]impl.Step{stepW}, n+1)
	code = append(code, stepNeg)
	return append(code, slices.Repeat([]impl.Step{stepAdd}, n)...)
}

func TestPrintOfNestedBrackets(t *testing.T) {
	const most = impl.MaxNest
	text, ok := impl.Print(program(value(leftDeep(most)...)))
	if want := strings.Repeat("(", most) + "- w" + strings.Repeat(") + w", most) + "\n"; text != want || !ok {
		t.Errorf("%q %v, want %q", text, ok, want)
	}
	deep, deeper := leftDeep(most), leftDeep(most+1)
	one := []impl.Step{numsStep(1)}
	deepNums, deeperNums := slices.Clone(deep), slices.Clone(deeper)
	deepNums[most], deeperNums[most+1] = one[0], one[0]
	for _, c := range []struct {
		code []impl.Step
		ok   bool
	}{
		{deep, true}, {deeper, false}, {deepNums, true}, {deeperNums, false}, {append(slices.Clone(deep), stepNeg), true}, {append(slices.Clone(deeper), stepNeg), false},
		{slices.Concat(deep, one, []impl.Step{stepAdd}), true}, {slices.Concat(deeper, one, []impl.Step{stepAdd}), false}, {slices.Concat(one, deep, []impl.Step{stepAdd}), false}, {slices.Concat(deep, leftDeep(most-1), []impl.Step{stepAdd}), true},
	} {
		for _, s := range []impl.Stmt{
			value(c.code...), {Kind: impl.StmtName, Name: "x", Code: c.code}, {Kind: impl.StmtFunc, Name: "F", Code: c.code},
			{Kind: impl.StmtFunc, Name: "F", Code: one, Guards: []impl.Guard{{Test: c.code, Then: deep}}}, {Kind: impl.StmtFunc, Name: "F", Code: deep, Guards: []impl.Guard{{Test: one, Then: c.code}}},
		} {
			text, ok := impl.Print(program(s))
			if ok != c.ok {
				t.Errorf("%q: %v", text, ok)
			}
			if back, code, _ := impl.Parse(text); ok && (code != 0 || !samePrograms(back, program(s))) {
				t.Errorf("%q does not read as it was: code %d", text, code)
			}
		}
	}
}

func TestPrintOfMostBytes(t *testing.T) {
	ws := func(n int) []impl.Stmt { return slices.Repeat(program(value(stepW)), n) }
	if text, ok := impl.Print(ws(impl.MaxText / 2)); len(text) != impl.MaxText || !ok {
		t.Errorf("%d bytes, %v", len(text), ok)
	}
	for _, p := range [][]impl.Stmt{ws(impl.MaxText/2 + 1), append(ws(impl.MaxText/2-1), value(nameStep("ab"))), ws(4 * impl.MaxText), ws(100000)} {
		refusePrint(t, p)
	}
	// 1000 numbers of 3 bytes and their blanks are what is left without.
	text, ok := impl.Print(program(value(numsStep(slices.Repeat([]int{100}, impl.MaxCells)...))))
	if len(text) != 4*impl.MaxCells || !ok {
		t.Errorf("%d bytes, %v", len(text), ok)
	}
	refusePrint(t, program(value(numsStep(append(slices.Repeat([]int{100}, impl.MaxCells-1), -100)...))))
	// Parse reads it; its text has more blanks and is too long.
	p := parsed(t, strings.Repeat("1-", impl.MaxText/2-1)+"1", 0, 0)
	refusePrint(t, p)
}

// Lists that share their memory hold more than could ever be gone through.
func TestPrintOfListsWithoutEnd(t *testing.T) {
	const many = 1 << 16
	nums := make([]int, many)
	code := slices.Repeat([]impl.Step{{Kind: impl.StepNums, Nums: nums}}, many)
	guards := slices.Repeat([]impl.Guard{{Test: code, Then: code}}, many)
	refusePrint(t, slices.Repeat([]impl.Stmt{{Kind: impl.StmtFunc, Name: "F", Code: code, Guards: guards}}, many))
	refusePrint(t, slices.Repeat([]impl.Stmt{{Kind: impl.StmtFunc, Name: "F", Code: code[:1], Guards: guards}}, many))
	refusePrint(t, program(value(slices.Repeat([]impl.Step{stepNeg}, many)...)))
	refusePrint(t, program(value(append([]impl.Step{stepW}, slices.Repeat([]impl.Step{stepNeg}, 1<<20)...)...)))
}
