package tests

import (
	"slices"
	"testing"

	"loop.example/s02135/impl"
)

// with stops a law whose own steps are refused.
func with(t *testing.T, a impl.Array, code int) impl.Array {
	t.Helper()
	if code != 0 {
		t.Fatalf("code %d", code)
	}
	return a
}

func TestScanEndsWithReduceAndBeginsWithTheFirstRow(t *testing.T) {
	held := 0
	for _, a := range pool() {
		if len(a.Shape) == 0 || a.Shape[0] == 0 {
			continue
		}
		for op := impl.OpAdd; op <= impl.OpMore; op++ {
			scan, code := impl.Scan(op, a)
			if code != 0 {
				continue
			}
			held++
			reduced, code := impl.Reduce(op, a)
			size := len(a.Data) / a.Shape[0]
			if code != 0 || !slices.Equal(reduced.Shape, a.Shape[1:]) || !slices.Equal(scan.Shape, a.Shape) {
				t.Fatalf("op %d of %v: code %d, %v, %v", op, a.Shape, code, reduced.Shape, scan.Shape)
			}
			if !slices.Equal(scan.Data[len(scan.Data)-size:], reduced.Data) {
				t.Errorf("op %d of %v: the last row of Scan is not Reduce", op, a.Shape)
			}
			if !slices.Equal(scan.Data[:size], a.Data[:size]) {
				t.Errorf("op %d of %v: the first row of Scan is not the first one", op, a.Shape)
			}
		}
	}
	if held < 100 {
		t.Errorf("only %d scans had no code", held)
	}
}

func TestInnerIsReduceOfEach2(t *testing.T) {
	vectors := []impl.Array{vectorOf(impl.MaxValue, 0), vectorOf(impl.MaxValue, 2), vectorOf(0, 0), vectorOf(1, -1), counted(-9, 5, 4), counted(3, -2, 4), counted(1, 1, 30)}
	for _, a := range append(pool(), vectors...) {
		for _, b := range append(pool(), vectors...) {
			if len(a.Shape) != 1 || !slices.Equal(a.Shape, b.Shape) || a.Shape[0] == 0 {
				continue
			}
			for f := impl.OpAdd; f <= impl.OpMore; f++ {
				for g := impl.OpAdd; g <= impl.OpMore; g++ {
					want, code := impl.Each2(g, a, b)
					if code == 0 {
						want, code = impl.Reduce(f, want)
					}
					got, gotCode := impl.Inner(f, g, a, b)
					if show(got, gotCode) != show(want, code) {
						t.Errorf("%d and %d of %v and %v: %q, not %q", f, g, a, b, show(got, gotCode), show(want, code))
					}
				}
			}
		}
	}
}

func TestTwiceIsTheArrayItself(t *testing.T) {
	for _, a := range pool() {
		for _, f := range []int{impl.MonRev, impl.MonFlip} {
			once, code := impl.Monad(f, a)
			twice, code2 := impl.Monad(f, with(t, once, code))
			if !same(with(t, twice, code2), a) {
				t.Errorf("monad %d twice of %v", f, a.Shape)
			}
		}
		flat, code := impl.Monad(impl.MonRavel, a)
		if len(a.Shape) == 1 && !same(with(t, flat, code), a) {
			t.Errorf("ravel of %v", a)
		}
	}
}

func TestFromByGradeIsAscending(t *testing.T) {
	for _, a := range pool() {
		if len(a.Shape) != 1 {
			continue
		}
		order, code := impl.Monad(impl.MonGrade, a)
		sorted, code2 := impl.Dyad(impl.DyaFrom, with(t, order, code), a)
		want := slices.Clone(a.Data)
		slices.Sort(want)
		if !same(with(t, sorted, code2), vectorOf(want...)) {
			t.Errorf("%v: %v", a, sorted)
		}
	}
}

func TestTakeOfTheCountIsTheArray(t *testing.T) {
	for _, a := range pool() {
		n, code := impl.Monad(impl.MonCount, a)
		taken, code2 := impl.Dyad(impl.DyaTake, with(t, n, code), a)
		if len(a.Shape) > 0 && !same(with(t, taken, code2), a) {
			t.Errorf("%v: %v", a.Shape, taken)
		}
	}
}

func TestCatOfTakeAndDropIsTheVector(t *testing.T) {
	for _, a := range pool() {
		for n := 0; len(a.Shape) == 1 && n <= a.Shape[0]; n++ {
			taken, code := impl.Dyad(impl.DyaTake, scalarOf(n), a)
			dropped, code2 := impl.Dyad(impl.DyaDrop, scalarOf(n), a)
			whole, code3 := impl.Dyad(impl.DyaCat, with(t, taken, code), with(t, dropped, code2))
			if !same(with(t, whole, code3), a) {
				t.Errorf("%d of %v", n, a.Shape)
			}
		}
	}
}
