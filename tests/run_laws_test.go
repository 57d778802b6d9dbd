package tests

import (
	"strings"
	"testing"

	"loop.example/s02135/impl"
)

// player writes texts by chance that run for a while.
type player struct {
	dice
	rolls bool
}

func (r *player) operand(depth int) string {
	switch r.throw(8) {
	case 0, 1, 2:
		return oneOf(&r.dice, []string{"w", "w", "w", "a", "x", "x", "y"})
	case 3:
		return oneOf(&r.dice, []string{"1 2 3", "0 1", "2 2", "5 0 3", "1 1", "(iota 0)", "(2 2 rho w)", "(1 rho 1)"})
	case 4:
		return oneOf(&r.dice, []string{"(self w - 1)", "(F w)", "(G w)", "(self 1 drop w)"})
	case 5:
		if depth > 0 {
			return "(" + r.expr(depth-1) + ")"
		}
	}
	return oneOf(&r.dice, []string{"0", "1", "1", "2", "2", "3", "4", "10", "_1", "3000000000"})
}

func (r *player) expr(depth int) string {
	if depth == 0 {
		return r.operand(0)
	}
	switch r.throw(5) {
	case 0, 1:
		return r.one() + " " + r.expr(depth-1)
	case 2, 3:
		return r.operand(depth-1) + " " + r.two() + " " + r.expr(depth-1)
	}
	return r.operand(depth)
}

func (r *player) one() string {
	if r.rolls && r.throw(5) == 0 {
		return "roll"
	}
	return oneOf(&r.dice, []string{"-", "-", "abs", "sign", "~", "iota", "rho", "cat", "cat", "rev", "flip", "grade", "count", "+/", "+/", "max/", "*\\", "F", "F", "G", "self"})
}

func (r *player) two() string {
	return oneOf(&r.dice, []string{"+", "+", "-", "*", "%", "|", "<", "=", ">", "max", "min", "take", "drop", "rho", "cat", "cat", "from", "iota", "match", "@+", "+.*", "F", "G", "self"})
}

func (r *player) guard() string {
	test := oneOf(&r.dice, []string{"w < 1", "w = 0", "1 < w", "(count w) < 2", "1", "0", "a = w", "w", "(+/ w) > 4"})
	if r.throw(5) == 0 {
		test = r.expr(1)
	}
	return test + " : " + r.expr(1) + "; "
}

func (r *player) function(name string) string {
	var text strings.Builder
	text.WriteString(name + " := {")
	for range r.throw(3) {
		text.WriteString(r.guard())
	}
	text.WriteString(r.expr(3) + "}")
	return text.String()
}

// text binds most of the names at first, since a run soon ends without them.
func (r *player) text() string {
	var stmts []string
	for _, stmt := range []string{"x := 2", "y := 1 0 2", "a := 1", r.function("F"), r.function("G")} {
		if r.throw(8) > 0 {
			stmts = append(stmts, stmt)
		}
	}
	for range r.throw(6) {
		switch r.throw(6) {
		case 0:
			stmts = append(stmts, r.function(oneOf(&r.dice, []string{"F", "G"})))
		case 1:
			stmts = append(stmts, oneOf(&r.dice, []string{"x", "y", "w", "a"})+" := "+r.expr(2))
		default:
			stmts = append(stmts, r.expr(3))
		}
	}
	return strings.Join(stmts, oneOf(&r.dice, []string{";", "\n"}))
}

func (r *player) array() impl.Array {
	return oneOf(&r.dice, []impl.Array{scalarOf(0), scalarOf(1), scalarOf(3), scalarOf(30), scalarOf(60), scalarOf(-2), vectorOf(), vectorOf(1), vectorOf(3, 1, 2), vectorOf(0, 1, 1, 0), counted(1, 1, 2, 2), counted(0, 1, 2, 3), counted(1, 1, 2, 1, 2)})
}

func (r *player) limits() impl.Limits {
	amounts := []int{0, 1, 2, 3, 4, 6, 9, 14, 30, 100, 400, 2000, 2000, 2000, 2000, 2000, 2000}
	return impl.Limits{
		Fuel:  oneOf(&r.dice, amounts),
		Cells: oneOf(&r.dice, amounts),
		Roll:  r.throw(5) > 0,
		Seed:  oneOf(&r.dice, []int{1, 2, 77, 2147483646, 2147483645, 1 + r.throw(2147483646)}),
	}
}

func checkAgainstModel(t *testing.T, text string, p []impl.Stmt, w impl.Array, l impl.Limits) impl.Outcome {
	t.Helper()
	o := impl.Run(p, w, l)
	if got, want := told(o), told(modelRun(p, w, l)); got != want {
		t.Errorf("%q with %v and %v: %s, want %s", text, w, l, short(got), short(want))
	}
	if o.Fuel < 0 || o.Fuel > l.Fuel || o.Cells < 0 || o.Cells > l.Cells {
		t.Errorf("%q used %d of %d and %d of %d", text, o.Fuel, l.Fuel, o.Cells, l.Cells)
	}
	return o
}

func TestRunsByChance(t *testing.T) {
	r := &player{dice: dice{21}, rolls: true}
	kinds, codes := map[int]int{}, map[int]int{}
	for range 40000 {
		text := r.text()
		o := checkAgainstModel(t, text, parsed(t, text, 0, 0), r.array(), r.limits())
		kinds[o.Kind]++
		codes[o.Code]++
	}
	// Programs by chance are of use only as long as they end in all ways.
	for kind := impl.DidValue; kind <= impl.DidCells; kind++ {
		if kinds[kind] < 1000 {
			t.Errorf("%d runs ended with kind %d", kinds[kind], kind)
		}
	}
	for _, code := range []int{impl.Domain, impl.Rank, impl.Length, impl.Index, impl.Overflow, impl.Limit, impl.NoName, impl.NoRight, impl.NoValue, impl.TooDeep} {
		if codes[code] < 40 {
			t.Errorf("%d runs ended with code %d", codes[code], code)
		}
	}
}

// Each pair of limits up to what a run uses: the tape of the model is one and
// the same for all of them.
func TestAllLimitsOfShortRuns(t *testing.T) {
	r := &player{dice: dice{22}, rolls: true}
	checked := 0
	for range 600 {
		text, w, l := r.text(), r.array(), plenty()
		l.Seed = 1 + r.throw(2147483646)
		p := parsed(t, text, 0, 0)
		l.Fuel, l.Cells = 31, 31
		o := impl.Run(p, w, l)
		if o.Kind == impl.DidFuel || o.Kind == impl.DidCells || o.Fuel < 5 {
			continue
		}
		checked++
		for l.Fuel = 0; l.Fuel <= o.Fuel+1; l.Fuel++ {
			for l.Cells = 0; l.Cells <= o.Cells+1; l.Cells++ {
				checkAgainstModel(t, text, p, w, l)
			}
		}
	}
	if checked < 150 {
		t.Errorf("%d runs were short", checked)
	}
}

func TestMoreFuelAndCells(t *testing.T) {
	r := &player{dice: dice{23}, rolls: true}
	for range 10000 {
		text, w, l := r.text(), r.array(), r.limits()
		p := parsed(t, text, 0, 0)
		o := impl.Run(p, w, l)
		if again := impl.Run(p, w, l); told(again) != told(o) {
			t.Errorf("%q: %s and then %s", text, told(o), told(again))
		}
		switch o.Kind {
		case impl.DidFuel:
			if o.Fuel != l.Fuel {
				t.Errorf("%q with %v: %s", text, l, told(o))
			}
		case impl.DidValue, impl.DidError:
			checkEnough(t, text, p, w, l, o)
			checkTooLittle(t, text, p, w, l, o)
		}
	}
}

func checkEnough(t *testing.T, text string, p []impl.Stmt, w impl.Array, l impl.Limits, o impl.Outcome) {
	t.Helper()
	for _, fuel := range []int{o.Fuel, o.Fuel + 1, l.Fuel, impl.MaxBudget} {
		for _, cells := range []int{o.Cells, o.Cells + 1, l.Cells, impl.MaxBudget} {
			l.Fuel, l.Cells = fuel, cells
			if more := impl.Run(p, w, l); told(more) != told(o) {
				t.Errorf("%q: %s, but with %v %s", text, told(o), l, told(more))
			}
		}
	}
}

func checkTooLittle(t *testing.T, text string, p []impl.Stmt, w impl.Array, l impl.Limits, o impl.Outcome) {
	t.Helper()
	less := l
	less.Fuel = o.Fuel - 1
	if got := impl.Run(p, w, less); o.Fuel > 0 && (got.Kind != impl.DidFuel || got.Fuel != o.Fuel-1 || got.Cells > o.Cells) {
		t.Errorf("%q: %s, but with %v %s", text, told(o), less, told(got))
	}
	less = l
	less.Cells = o.Cells - 1
	if got := impl.Run(p, w, less); o.Cells > 0 && (got.Kind != impl.DidCells || got.Fuel > o.Fuel || got.Cells >= o.Cells) {
		t.Errorf("%q: %s, but with %v %s", text, told(o), less, told(got))
	}
}

// Promise 8.
func TestSeedAndRollAreNothingWithoutRoll(t *testing.T) {
	r := &player{dice: dice{24}}
	for range 6000 {
		text, w, l := r.text(), r.array(), r.limits()
		if strings.Contains(text, "roll") {
			t.Fatalf("%q", text)
		}
		p := parsed(t, text, 0, 0)
		o := impl.Run(p, w, l)
		for _, seed := range []int{1, 2, 1 + r.throw(2147483646), 2147483646} {
			for _, roll := range []bool{false, true} {
				l.Seed, l.Roll = seed, roll
				if other := impl.Run(p, w, l); told(other) != told(o) {
					t.Errorf("%q: %s, but with %v %s", text, told(o), l, told(other))
				}
			}
		}
	}
}
