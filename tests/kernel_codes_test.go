package tests

import (
	"strings"
	"testing"

	"loop.example/s02135/impl"
)

// zeros is a text of n cells.
func zeros(n int) string { return strings.Repeat("0 ", n-1) + "0" }

func check(t *testing.T, i int, want string, a impl.Array, code int) {
	t.Helper()
	if got := show(a, code); got != want {
		t.Errorf("case %d: %q, not %q", i, short(got), short(want))
	}
}

func TestEach1Cases(t *testing.T) {
	for i, c := range []struct {
		op      int
		a, want string
	}{
		{impl.OneNeg, "3:3000000000 0 -3000000000", "3:-3000000000 0 3000000000"},
		{impl.OneAbs, "2 2:-3000000000 3000000000 0 -1", "2 2:3000000000 3000000000 0 1"},
		{impl.OneSign, "3:-3000000000 0 3000000000", "3:-1 0 1"},
		{impl.OneNot, "1 1 2:0 1", "1 1 2:1 0"},
		{impl.OneNot, ":-1", "code 1"},
		{impl.OneNot, "3:1 0 2", "code 1"},
		{impl.OneNot, "0:", "0:"},
		{impl.OneNeg, "0 1000 1000:", "0 1000 1000:"},
	} {
		a, code := impl.Each1(c.op, of(t, c.a))
		check(t, i, c.want, a, code)
	}
}

func TestEach2Cases(t *testing.T) {
	for i, c := range []struct {
		op         int
		a, b, want string
	}{
		{impl.OpSub, "2:1 2", "2:10 20", "2:-9 -18"},
		{impl.OpSub, ":1", "2:10 20", "2:-9 -19"},
		{impl.OpSub, "2:10 20", ":1", "2:9 19"},
		{impl.OpSub, ":1", ":10", ":-9"},
		{impl.OpSub, "1:1", ":10", "1:-9"},
		{impl.OpSub, ":1", "1 1 1:10", "1 1 1:-9"},
		{impl.OpDiv, "6:7 -7 7 -7 6 -6", "6:2 2 -2 -2 -2 2", "6:3 -4 -4 3 -3 -3"},
		{impl.OpDiv, "4:1 -1 1 -1", "4:3000000000 3000000000 -3000000000 -3000000000", "4:0 -1 -1 0"},
		{impl.OpDiv, "2:-3000000000 3000000000", ":-1", "2:3000000000 -3000000000"},
		{impl.OpDiv, ":0", ":0", "code 1"},
		{impl.OpDiv, "0:", ":0", "0:"},
		{impl.OpMod, "6:7 -7 7 -7 6 -6", "6:2 2 -2 -2 -2 2", "6:1 1 -1 -1 0 0"},
		{impl.OpMod, "3:-3000000000 0 3000000000", ":0", "3:-3000000000 0 3000000000"},
		{impl.OpMod, "4:1 -1 1 -1", "4:3000000000 3000000000 -3000000000 -3000000000", "4:1 2999999999 -2999999999 -1"},
		{impl.OpAdd, ":3000000000", ":0", ":3000000000"},
		{impl.OpAdd, ":-3000000000", ":-1", "code 5"},
		{impl.OpSub, ":3000000000", ":-1", "code 5"},
		{impl.OpSub, ":-3000000000", ":1", "code 5"},
		{impl.OpMul, ":3000000000", ":-1", ":-3000000000"},
		{impl.OpMul, ":3000000000", ":3000000000", "code 5"},
		{impl.OpMul, ":-3000000000", ":3000000000", "code 5"},
		{impl.OpMul, "2:54772 54773", "2:54772 54773", "code 5"},
		{impl.OpMul, ":54772", ":54772", ":2999971984"},
		{impl.OpLess, "3:1 2 3", "3:2 2 2", "3:1 0 0"},
		{impl.OpEqual, "3:1 2 3", "3:2 2 2", "3:0 1 0"},
		{impl.OpMore, "3:1 2 3", "3:2 2 2", "3:0 0 1"},
		{impl.OpMin, "2:-1 1", ":0", "2:-1 0"},
		{impl.OpMax, "2:-1 1", ":0", "2:0 1"},
		{impl.OpAdd, "1:1", "1 1:1", "code 2"},
		{impl.OpAdd, "0:", "0 0:", "code 2"},
		{impl.OpAdd, "0:", "1:1", "code 3"},
		{impl.OpAdd, "2 3:1 2 3 4 5 6", "3 2:1 2 3 4 5 6", "code 3"},
		{impl.OpAdd, "0 2:", "2 0:", "code 3"},
		{impl.OpAdd, "2 0:", "2 0:", "2 0:"},
		// Rank and Length come ahead of what the cells have.
		{impl.OpDiv, "1:1", "1 1:0", "code 2"},
		{impl.OpDiv, "1:1", "2:0 0", "code 3"},
	} {
		a, code := impl.Each2(c.op, of(t, c.a), of(t, c.b))
		check(t, i, c.want, a, code)
	}
}

func TestReduceAndScanCases(t *testing.T) {
	for i, c := range []struct {
		op               int
		a, reduced, scan string
	}{
		{impl.OpSub, "4:1 2 3 4", ":-2", "4:1 -1 2 -2"},
		{impl.OpSub, "3 2:1 2 3 4 5 6", "2:3 4", "3 2:1 2 -2 -2 3 4"},
		{impl.OpSub, "2 1 2:1 2 5 7", "1 2:-4 -5", "2 1 2:1 2 -4 -5"},
		{impl.OpDiv, "3:100 7 2", ":33", "3:100 14 33"},
		{impl.OpMod, "3:17 7 4", ":2", "3:17 3 2"},
		{impl.OpLess, "3:5 1 0", ":0", "3:5 0 0"},
		{impl.OpLess, "1:7", ":7", "1:7"},
		{impl.OpDiv, ":0", ":0", ":0"},
		{impl.OpDiv, "1:0", ":0", "1:0"},
		{impl.OpDiv, "1 2:0 0", "2:0 0", "1 2:0 0"},
		{impl.OpAdd, "1000 0:", "0:", "1000 0:"},
		{impl.OpLess, "3 0:", "0:", "3 0:"},
		{impl.OpAdd, "1 1000 0:", "1000 0:", "1 1000 0:"},
		// A step overflows though the whole would fit, and the other way round.
		{impl.OpAdd, "3:-1 3000000000 1", "code 5", "code 5"},
		{impl.OpAdd, "3:1 3000000000 -1", ":3000000000", "code 5"},
		{impl.OpMul, "3:0 3000000000 2", "code 5", "code 5"},
		{impl.OpMul, "2 2:3000000000 1 1 3000000000", "2:3000000000 3000000000", "2 2:3000000000 1 3000000000 3000000000"},
		{impl.OpDiv, "3:1 1 0", "code 1", "code 1"},
		{impl.OpDiv, "3:1 0 2", "code 1", "code 1"},
		// No rows.
		{impl.OpAdd, "0:", ":0", "0:"},
		{impl.OpSub, "0:", ":0", "0:"},
		{impl.OpMul, "0:", ":1", "0:"},
		{impl.OpDiv, "0:", ":1", "0:"},
		{impl.OpMod, "0:", ":0", "0:"},
		{impl.OpMin, "0:", ":3000000000", "0:"},
		{impl.OpMax, "0:", ":-3000000000", "0:"},
		{impl.OpLess, "0:", "code 1", "0:"},
		{impl.OpEqual, "0:", "code 1", "0:"},
		{impl.OpMore, "0:", "code 1", "0:"},
		{impl.OpMax, "0 1 2:", "1 2:-3000000000 -3000000000", "0 1 2:"},
		{impl.OpEqual, "0 0:", "code 1", "0 0:"},
		{impl.OpAdd, "0 0 1000:", "0 1000:", "0 0 1000:"},
		{impl.OpAdd, "0 1000:", "1000:" + zeros(1000), "0 1000:"},
		{impl.OpAdd, "0 1000 2:", "code 6", "0 1000 2:"},
		{impl.OpEqual, "0 1000 2:", "code 1", "0 1000 2:"},
	} {
		a, code := impl.Reduce(c.op, of(t, c.a))
		check(t, i, c.reduced, a, code)
		a, code = impl.Scan(c.op, of(t, c.a))
		check(t, i, c.scan, a, code)
	}
}

func TestOuterCases(t *testing.T) {
	for i, c := range []struct {
		op         int
		a, b, want string
	}{
		{impl.OpSub, "2:10 20", "3:1 2 3", "2 3:9 8 7 19 18 17"},
		{impl.OpSub, "2:10 20", ":1", "2:9 19"},
		{impl.OpSub, ":1", "1 2:10 20", "1 2:-9 -19"},
		{impl.OpSub, "2 1:1 2", "2:3 4", "2 1 2:-2 -3 -1 -2"},
		{impl.OpDiv, "0:", "2:0 0", "0 2:"},
		{impl.OpDiv, "2:0 0", "0:", "2 0:"},
		{impl.OpAdd, "0 1000:", "1000:" + zeros(1000), "0 1000 1000:"},
		{impl.OpAdd, "1000:" + zeros(1000), "1:0", "1000 1:" + zeros(1000)},
		{impl.OpAdd, "1000:" + zeros(1000), "2:0 0", "code 6"},
		{impl.OpAdd, "0 0:", "0 0:", "code 6"},
		{impl.OpAdd, "0:", "1 1 1:1", "code 6"},
		// Limit comes ahead of what the cells have.
		{impl.OpDiv, "1000:" + zeros(1000), "2:0 0", "code 6"},
		{impl.OpDiv, "1 1:1", "1 1:0", "code 6"},
		{impl.OpDiv, "2:1 1", "2:1 0", "code 1"},
		{impl.OpMul, "2:1 3000000000", "2:1 2", "code 5"},
	} {
		a, code := impl.Outer(c.op, of(t, c.a), of(t, c.b))
		check(t, i, c.want, a, code)
	}
}

func TestInnerCases(t *testing.T) {
	for i, c := range []struct {
		f, g       int
		a, b, want string
	}{
		{impl.OpSub, impl.OpMul, "3:1 2 3", "3:10 10 10", ":20"},
		{impl.OpAdd, impl.OpSub, "2 3:1 2 3 4 5 6", "3:1 1 1", "2:3 12"},
		{impl.OpAdd, impl.OpMul, "2 3:1 2 3 4 5 6", "3 2:1 2 3 4 5 6", "2 2:22 28 49 64"},
		{impl.OpAdd, impl.OpMul, "1 2 2:1 2 3 4", "2 1:1 10", "1 2 1:21 43"},
		{impl.OpAdd, impl.OpMul, "2:1 10", "2 1 2:1 2 3 4", "1 2:31 42"},
		{impl.OpAdd, impl.OpMul, "1 1:3", "1:4", "1:12"},
		{impl.OpAdd, impl.OpMul, ":1", ":1", "code 2"},
		{impl.OpAdd, impl.OpMul, "1:1", ":1", "code 2"},
		{impl.OpAdd, impl.OpMul, ":1", "1 1 1:1", "code 2"},
		{impl.OpAdd, impl.OpMul, "2 3:1 2 3 4 5 6", "2:1 2", "code 3"},
		{impl.OpAdd, impl.OpMul, "2 1:1 2", "2:1 2", "code 3"},
		// Length comes ahead of Limit, Limit ahead of the cells.
		{impl.OpAdd, impl.OpDiv, "1 1 1:1", "2 1 1:0 0", "code 3"},
		{impl.OpAdd, impl.OpDiv, "1 1 1:1", "1 1 1:0", "code 6"},
		{impl.OpAdd, impl.OpDiv, "1000 1:" + zeros(1000), "1 2:0 0", "code 6"},
		{impl.OpLess, impl.OpAdd, "1000 0:", "0 1000:", "code 6"},
		// Nothing along the two axes.
		{impl.OpMin, impl.OpDiv, "0:", "0:", ":3000000000"},
		{impl.OpMul, impl.OpDiv, "2 0:", "0 2:", "2 2:1 1 1 1"},
		{impl.OpLess, impl.OpAdd, "0:", "0:", "code 1"},
		{impl.OpLess, impl.OpAdd, "1 0:", "0 1:", "code 1"},
		// No cells in the answer, so none that has a code.
		{impl.OpLess, impl.OpAdd, "0 0:", "0:", "0:"},
		{impl.OpAdd, impl.OpDiv, "0 2:", "2:0 0", "0:"},
		{impl.OpAdd, impl.OpMul, "1000 1000 0:", "0 0:", "1000 1000 0:"},
		// All of g comes ahead of f, and a cell ahead of the next one.
		{impl.OpMul, impl.OpDiv, "3:1 3000000000 3000000000", "3:0 1 1", "code 1"},
		{impl.OpMul, impl.OpDiv, "3:3000000000 3000000000 1", "3:1 1 0", "code 1"},
		{impl.OpDiv, impl.OpMul, "3:3000000000 1 1", "3:2 1 0", "code 5"},
		{impl.OpDiv, impl.OpMul, "2 2:1 0 3000000000 1", "2:2 1", "code 1"},
		{impl.OpDiv, impl.OpMul, "2 2:3000000000 1 1 0", "2:2 1", "code 5"},
		{impl.OpLess, impl.OpLess, "1:3", "1:4", ":1"},
	} {
		a, code := impl.Inner(c.f, c.g, of(t, c.a), of(t, c.b))
		check(t, i, c.want, a, code)
	}
}

func TestMonadCases(t *testing.T) {
	for i, c := range []struct {
		f       int
		a, want string
	}{
		{impl.MonIota, ":1", "1:0"},
		{impl.MonIota, ":-3000000000", "code 1"},
		{impl.MonIota, ":3000000000", "code 6"},
		{impl.MonIota, "0:", "code 2"},
		{impl.MonIota, "1:-1", "code 2"},
		{impl.MonShape, ":0", "0:"},
		{impl.MonShape, "0:", "1:0"},
		{impl.MonShape, "0 1000 1000:", "3:0 1000 1000"},
		{impl.MonRavel, "2 0 3:", "0:"},
		{impl.MonRavel, "1 2 2:4 3 2 1", "4:4 3 2 1"},
		{impl.MonRev, "3:1 2 3", "3:3 2 1"},
		{impl.MonRev, "2 1 2:1 2 3 4", "2 1 2:3 4 1 2"},
		{impl.MonRev, "1000 1000 0:", "1000 1000 0:"},
		{impl.MonRev, "0 1000 1000:", "0 1000 1000:"},
		{impl.MonFlip, ":5", ":5"},
		{impl.MonFlip, "3:1 2 3", "3:1 2 3"},
		{impl.MonFlip, "0 1 1000:", "1000 1 0:"},
		{impl.MonFlip, "2 2 3:1 2 3 4 5 6 7 8 9 10 11 12", "3 2 2:1 7 4 10 2 8 5 11 3 9 6 12"},
		{impl.MonGrade, "0:", "0:"},
		{impl.MonGrade, "6:2 -1 2 -1 3000000000 -3000000000", "6:5 1 3 0 2 4"},
		{impl.MonGrade, "1 1:1", "code 2"},
		{impl.MonCount, "0 5:", ":0"},
		{impl.MonCount, "5 0:", ":5"},
		{impl.MonCount, ":0", ":1"},
	} {
		a, code := impl.Monad(c.f, of(t, c.a))
		check(t, i, c.want, a, code)
	}
	a, code := impl.Monad(impl.MonIota, scalarOf(1000))
	check(t, -1, show(counted(0, 1, 1000), 0), a, code)
}

func TestGradeKeepsEqualCellsInOrder(t *testing.T) {
	cells := make([]int, 1000)
	for i := range cells {
		cells[i] = i * 7 % 3
	}
	order, code := impl.Monad(impl.MonGrade, vectorOf(cells...))
	if code != 0 || len(order.Data) != 1000 {
		t.Fatalf("code %d", code)
	}
	for i := 1; i < 1000; i++ {
		p, q := order.Data[i-1], order.Data[i]
		if cells[p] > cells[q] || cells[p] == cells[q] && p >= q {
			t.Fatalf("place %d: %d ahead of %d", i, p, q)
		}
	}
}

func TestReshapeCases(t *testing.T) {
	for i, c := range []struct{ a, b, want string }{
		{":5", "2:1 2", "5:1 2 1 2 1"},
		{"1:5", "2:1 2", "5:1 2 1 2 1"},
		{"0:", ":7", ":7"},
		{"0:", "2 2:7 8 9 10", ":7"},
		{"3:1 2 1", "2 2:7 8 9 10", "1 2 1:7 8"},
		{":0", ":7", "0:"},
		{"3:0 1000 1000", ":7", "0 1000 1000:"},
		{":1000", ":0", "1000:" + zeros(1000)},
		{":1001", ":0", "code 6"},
		{"3:10 10 11", ":0", "code 6"},
		{"3:7 11 13", ":0", "code 6"},
		{"3:0 0 1001", ":0", "code 6"},
		{"3:3000000000 3000000000 3000000000", ":0", "code 6"},
		{"1 1:5", "0:", "code 2"},
		{"0 0:", ":1", "code 2"},
		{"4:0 0 0 0", "0:", "code 6"},
		{":1", "0:", "code 3"},
		{"0:", "0:", "code 3"},
		{"2:3 0", "0 5:", "3 0:"},
		// Two codes that both apply.
		{"1 4:-1 -1 -1 -1", "0:", "code 2"},
		{"4:-1 1 1 1", "0:", "code 6"},
		{"2:1001 -1", "0:", "code 1"},
		{"2:-1 0", "0:", "code 1"},
		{":-3000000000", ":1", "code 1"},
		{":1001", "0:", "code 6"},
	} {
		a, code := impl.Dyad(impl.DyaReshape, of(t, c.a), of(t, c.b))
		check(t, i, c.want, a, code)
	}
}

func TestTakeAndDropCases(t *testing.T) {
	for i, c := range []struct{ a, b, taken, dropped string }{
		{":2", "4:1 2 3 4", "2:1 2", "2:3 4"},
		{":-1", "4:1 2 3 4", "1:4", "3:1 2 3"},
		{":0", "4:1 2 3 4", "0:", "4:1 2 3 4"},
		{":4", "4:1 2 3 4", "4:1 2 3 4", "0:"},
		{":-4", "4:1 2 3 4", "4:1 2 3 4", "0:"},
		{":5", "4:1 2 3 4", "5:1 2 3 4 0", "0:"},
		{":-6", "4:1 2 3 4", "6:0 0 1 2 3 4", "0:"},
		{":-3", "2 2:1 2 3 4", "3 2:0 0 1 2 3 4", "0 2:"},
		{":-1", "2 2:1 2 3 4", "1 2:3 4", "1 2:1 2"},
		{":1", "2 1 2:1 2 3 4", "1 1 2:1 2", "1 1 2:3 4"},
		{":0", ":9", "0:", "1:9"},
		{":1", ":9", "1:9", "0:"},
		{":-2", ":9", "2:0 9", "0:"},
		{":3", "0 2:", "3 2:0 0 0 0 0 0", "0 2:"},
		{":0", "0 1000 1000:", "0 1000 1000:", "0 1000 1000:"},
		{":-1", "0 1000 1000:", "code 6", "0 1000 1000:"},
		{":1000", "2 0:", "1000 0:", "0 0:"},
		{":1001", "2 0:", "code 6", "0 0:"},
		{":-1001", "2:1 2", "code 6", "0:"},
		{":3000000000", "2:1 2", "code 6", "0:"},
		{":-3000000000", "2:1 2", "code 6", "0:"},
		{":501", "1 2:1 2", "code 6", "0 2:"},
		{"1:1", "2:1 2", "code 2", "code 2"},
		{"0:", ":1", "code 2", "code 2"},
		{"1:1001", "2:1 2", "code 2", "code 2"},
	} {
		a, code := impl.Dyad(impl.DyaTake, of(t, c.a), of(t, c.b))
		check(t, i, c.taken, a, code)
		a, code = impl.Dyad(impl.DyaDrop, of(t, c.a), of(t, c.b))
		check(t, i, c.dropped, a, code)
	}
}

func TestCatCases(t *testing.T) {
	for i, c := range []struct{ a, b, want string }{
		{"2:1 2", "0:", "2:1 2"},
		{"0:", "0:", "0:"},
		{":1", "2:2 3", "3:1 2 3"},
		{"2:2 3", ":1", "3:2 3 1"},
		{":1", "2 1:2 3", "3 1:1 2 3"},
		{"2 1:2 3", ":1", "3 1:2 3 1"},
		{":1", "0 1:", "1 1:1"},
		{":1", "1 2:1 2", "code 3"},
		{":1", "1 1 1:1", "code 2"},
		{"1 1 1:1", ":1", "code 2"},
		{"1:1", "1 1 1:1", "code 2"},
		{"2 2:1 2 3 4", "1 2 2:5 6 7 8", "2 2 2:1 2 3 4 5 6 7 8"},
		{"1 2 2:5 6 7 8", "2 2:1 2 3 4", "2 2 2:5 6 7 8 1 2 3 4"},
		{"1 2:1 2", "2 2:3 4 5 6", "3 2:1 2 3 4 5 6"},
		{"1 2:1 2", "2 1:3 4", "code 3"},
		{"0:", "0 0:", "1 0:"},
		{"0:", "0 1:", "code 3"},
		{"0 1000 1000:", "0 1000 1000:", "0 1000 1000:"},
		{"1000 0:", "0 0:", "1000 0:"},
		{"1000 0:", "0:", "code 6"},
		{"500:" + zeros(500), "500:" + zeros(500), "1000:" + zeros(1000)},
		{"1000:" + zeros(1000), ":0", "code 6"},
		{"1 1000:" + zeros(1000), "1000:" + zeros(1000), "code 6"},
		// Length comes ahead of Limit.
		{"1000 1:" + zeros(1000), "1 2:0 0", "code 3"},
	} {
		a, code := impl.Dyad(impl.DyaCat, of(t, c.a), of(t, c.b))
		check(t, i, c.want, a, code)
	}
}

func TestFromFindMatchCases(t *testing.T) {
	for i, c := range []struct {
		f          int
		a, b, want string
	}{
		{impl.DyaFrom, ":2", "3:7 8 9", ":9"},
		{impl.DyaFrom, "2 2:0 1 1 0", "2:7 8", "2 2:7 8 8 7"},
		{impl.DyaFrom, "2:1 1", "2 2:1 2 3 4", "2 2:3 4 3 4"},
		{impl.DyaFrom, ":0", "1 1 2:5 6", "1 2:5 6"},
		{impl.DyaFrom, "0:", "3:7 8 9", "0:"},
		{impl.DyaFrom, "0:", "0 1000:", "0 1000:"},
		{impl.DyaFrom, "3:0 1 1", "2 0:", "3 0:"},
		{impl.DyaFrom, "2:0 2", "2 0:", "code 4"},
		{impl.DyaFrom, "2:0 -1", "2:1 2", "code 4"},
		{impl.DyaFrom, ":0", "0:", "code 4"},
		{impl.DyaFrom, ":3000000000", "1:1", "code 4"},
		{impl.DyaFrom, "0:", ":1", "code 2"},
		{impl.DyaFrom, "1 1 1:5", ":1", "code 2"},
		{impl.DyaFrom, "1 1:0", "1 1 1:1", "code 6"},
		{impl.DyaFrom, "1 1:9", "1 1 1:1", "code 6"},
		{impl.DyaFrom, "2:9 9", "1 1000:" + zeros(1000), "code 6"},
		{impl.DyaFrom, ":0", "0 1000 1000:", "code 6"},
		{impl.DyaFind, "4:5 6 5 7", "4:5 7 8 6", "4:0 3 4 1"},
		{impl.DyaFind, "4:5 6 5 7", ":5", ":0"},
		{impl.DyaFind, "0:", "1 2:5 6", "1 2:0 0"},
		{impl.DyaFind, "1:5", "0 1000 1000:", "0 1000 1000:"},
		{impl.DyaFind, "1 1:5", ":5", "code 2"},
		{impl.DyaFind, ":5", "0:", "code 2"},
		{impl.DyaMatch, ":5", ":5", ":1"},
		{impl.DyaMatch, ":5", "1:5", ":0"},
		{impl.DyaMatch, "2:5 6", "2:5 7", ":0"},
		{impl.DyaMatch, "0:", "0 0:", ":0"},
		{impl.DyaMatch, "0 2:", "2 0:", ":0"},
		{impl.DyaMatch, "0 2:", "0 2:", ":1"},
		{impl.DyaMatch, "1:1", "2:1 1", ":0"},
	} {
		a, code := impl.Dyad(c.f, of(t, c.a), of(t, c.b))
		check(t, i, c.want, a, code)
	}
}

func TestBadArrayComesFirst(t *testing.T) {
	right := []impl.Array{scalarOf(0), vectorOf(), counted(0, 0, 0, 1000, 1000)}
	for i, bad := range badArrays() {
		for number := -1; number <= 12; number++ {
			for _, a := range append(right, bad) {
				for name, call := range twoArrayCalls(number) {
					for _, pair := range [][2]impl.Array{{a, bad}, {bad, a}} {
						if got, code := call(pair[0], pair[1]); show(got, code) != "code 9" {
							t.Errorf("bad array %d, %s %d: %q", i, name, number, show(got, code))
						}
					}
				}
			}
			for name, call := range oneArrayCalls(number) {
				if got, code := call(bad); show(got, code) != "code 9" {
					t.Errorf("bad array %d, %s %d: %q", i, name, number, show(got, code))
				}
			}
		}
	}
}

func TestNumbersThatAreNone(t *testing.T) {
	most := map[string]int{"Each1": 4, "Monad": 7, "Reduce": 10, "Scan": 10, "Each2": 10, "Dyad": 7, "Outer": 10, "Inner f": 10, "Inner g": 10}
	for _, number := range []int{-1 << 63, -1, 0, 1, 4, 5, 7, 8, 10, 11, 1<<63 - 1} {
		for name, call := range oneArrayCalls(number) {
			for _, a := range pool() {
				got, code := call(a)
				if none := number < 1 || number > most[name]; none != (code == impl.BadArray) {
					t.Errorf("%s %d of %v: %q", name, number, a.Shape, show(got, code))
				}
			}
		}
		for name, call := range twoArrayCalls(number) {
			for _, a := range []impl.Array{scalarOf(1), vectorOf(), counted(0, 0, 0, 1000, 1000)} {
				got, code := call(a, a)
				if none := number < 1 || number > most[name]; none != (code == impl.BadArray) {
					t.Errorf("%s %d of %v: %q", name, number, a.Shape, show(got, code))
				}
			}
		}
	}
}

func oneArrayCalls(number int) map[string]func(a impl.Array) (impl.Array, int) {
	return map[string]func(a impl.Array) (impl.Array, int){
		"Each1":  func(a impl.Array) (impl.Array, int) { return impl.Each1(number, a) },
		"Monad":  func(a impl.Array) (impl.Array, int) { return impl.Monad(number, a) },
		"Reduce": func(a impl.Array) (impl.Array, int) { return impl.Reduce(number, a) },
		"Scan":   func(a impl.Array) (impl.Array, int) { return impl.Scan(number, a) },
	}
}

func twoArrayCalls(number int) map[string]func(a, b impl.Array) (impl.Array, int) {
	return map[string]func(a, b impl.Array) (impl.Array, int){
		"Each2":   func(a, b impl.Array) (impl.Array, int) { return impl.Each2(number, a, b) },
		"Dyad":    func(a, b impl.Array) (impl.Array, int) { return impl.Dyad(number, a, b) },
		"Outer":   func(a, b impl.Array) (impl.Array, int) { return impl.Outer(number, a, b) },
		"Inner f": func(a, b impl.Array) (impl.Array, int) { return impl.Inner(number, impl.OpAdd, a, b) },
		"Inner g": func(a, b impl.Array) (impl.Array, int) { return impl.Inner(impl.OpAdd, number, a, b) },
	}
}
