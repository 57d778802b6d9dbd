package tests

import (
	"math/big"
	"slices"
	"sort"
	"strconv"
	"testing"

	"loop.example/s02135/impl"
)

// The model is a second reading of chapter 2: each answer is told place by
// place, by indexes, and cells are reckoned with numbers of any size.

func joinShapes(parts ...[]int) []int { return slices.Concat(parts...) }

func fits(shape []int) bool {
	product := big.NewInt(1)
	for _, length := range shape {
		if length > impl.MaxCells {
			return false
		}
		product.Mul(product, big.NewInt(int64(length)))
	}
	return len(shape) <= impl.MaxRank && product.Cmp(big.NewInt(impl.MaxCells)) <= 0
}

// build asks for the cell at each index, the last axis running fastest.
func build(shape []int, cell func(index []int) (int, int)) (impl.Array, int) {
	if !fits(shape) {
		return impl.Array{}, impl.Limit
	}
	out := counted(0, 0, shape...)
	for at := range out.Data {
		index := make([]int, len(shape))
		rest := at
		for axis := len(shape) - 1; axis >= 0; axis-- {
			index[axis] = rest % shape[axis]
			rest /= shape[axis]
		}
		value, code := cell(index)
		if code != 0 {
			return impl.Array{}, code
		}
		out.Data[at] = value
	}
	return out, 0
}

func cellAt(a impl.Array, index []int) int {
	at := 0
	for axis, i := range index {
		at = at*a.Shape[axis] + i
	}
	return a.Data[at]
}

func modelCell(op, x, y int) (int, int) {
	p, q, r := big.NewInt(int64(x)), big.NewInt(int64(y)), new(big.Int)
	order := p.Cmp(q)
	switch op {
	case impl.OpAdd:
		r.Add(p, q)
	case impl.OpSub:
		r.Sub(p, q)
	case impl.OpMul:
		r.Mul(p, q)
	case impl.OpDiv, impl.OpMod:
		if y == 0 && op == impl.OpDiv {
			return 0, impl.Domain
		}
		if y == 0 {
			return x, 0
		}
		// The quotient rounded down is the greatest k with k*|y| at most x, or -x.
		if y < 0 {
			p.Neg(p)
			q.Neg(q)
		}
		r.Div(p, q)
		if op == impl.OpMod {
			r.Mul(r, big.NewInt(int64(y)))
			r.Sub(big.NewInt(int64(x)), r)
		}
	case impl.OpMin:
		return map[bool]int{true: x, false: y}[order < 0], 0
	case impl.OpMax:
		return map[bool]int{true: x, false: y}[order > 0], 0
	default:
		return map[bool]int{true: 1}[order == op-impl.OpEqual], 0
	}
	if r.CmpAbs(big.NewInt(impl.MaxValue)) > 0 {
		return 0, impl.Overflow
	}
	return int(r.Int64()), 0
}

func modelFold(op int, cells []int) (int, int) {
	if len(cells) == 0 {
		nothing := map[int]int{impl.OpAdd: 0, impl.OpSub: 0, impl.OpMod: 0, impl.OpMul: 1, impl.OpDiv: 1, impl.OpMin: impl.MaxValue, impl.OpMax: -impl.MaxValue}
		value, ok := nothing[op]
		return value, map[bool]int{false: impl.Domain}[ok]
	}
	if len(cells) == 1 {
		return cells[0], 0
	}
	rest, code := modelFold(op, cells[1:])
	if code != 0 {
		return 0, code
	}
	return modelCell(op, cells[0], rest)
}

// column has the cells with the same index in the first n rows.
func column(a impl.Array, n int, index []int) []int {
	cells := make([]int, n)
	for row := range cells {
		cells[row] = cellAt(a, joinShapes([]int{row}, index))
	}
	return cells
}

func modelReduce(op int, a impl.Array) (impl.Array, int) {
	if len(a.Shape) == 0 {
		return a, 0
	}
	if a.Shape[0] == 0 && op >= impl.OpLess {
		return impl.Array{}, impl.Domain
	}
	return build(a.Shape[1:], func(index []int) (int, int) { return modelFold(op, column(a, a.Shape[0], index)) })
}

func modelScan(op int, a impl.Array) (impl.Array, int) {
	if len(a.Shape) == 0 {
		return a, 0
	}
	return build(a.Shape, func(index []int) (int, int) { return modelFold(op, column(a, index[0]+1, index[1:])) })
}

func modelEach2(op int, a, b impl.Array) (impl.Array, int) {
	shape := a.Shape
	if len(a.Shape) == 0 {
		shape = b.Shape
	} else if len(b.Shape) != 0 && len(a.Shape) != len(b.Shape) {
		return impl.Array{}, impl.Rank
	} else if len(b.Shape) != 0 && !slices.Equal(a.Shape, b.Shape) {
		return impl.Array{}, impl.Length
	}
	return build(shape, func(index []int) (int, int) {
		return modelCell(op, cellAt(a, index[:len(a.Shape)]), cellAt(b, index[:len(b.Shape)]))
	})
}

func modelEach1(op int, a impl.Array) (impl.Array, int) {
	return build(a.Shape, func(index []int) (int, int) {
		x := cellAt(a, index)
		switch {
		case op == impl.OneNeg, op == impl.OneAbs && x < 0:
			return -x, 0
		case op == impl.OneAbs:
			return x, 0
		case op == impl.OneSign:
			return map[bool]int{true: 1}[x > 0] - map[bool]int{true: 1}[x < 0], 0
		case x == 0:
			return 1, 0
		case x == 1:
			return 0, 0
		}
		return 0, impl.Domain
	})
}

func modelOuter(op int, a, b impl.Array) (impl.Array, int) {
	return build(joinShapes(a.Shape, b.Shape), func(index []int) (int, int) {
		return modelCell(op, cellAt(a, index[:len(a.Shape)]), cellAt(b, index[len(a.Shape):]))
	})
}

func modelInner(f, g int, a, b impl.Array) (impl.Array, int) {
	if len(a.Shape) == 0 || len(b.Shape) == 0 {
		return impl.Array{}, impl.Rank
	}
	last := len(a.Shape) - 1
	if a.Shape[last] != b.Shape[0] {
		return impl.Array{}, impl.Length
	}
	return build(joinShapes(a.Shape[:last], b.Shape[1:]), func(index []int) (int, int) {
		cells := make([]int, b.Shape[0])
		for k := range cells {
			value, code := modelCell(g, cellAt(a, joinShapes(index[:last], []int{k})), cellAt(b, joinShapes([]int{k}, index[last:])))
			if code != 0 {
				return 0, code
			}
			cells[k] = value
		}
		return modelFold(f, cells)
	})
}

func modelMonad(f int, a impl.Array) (impl.Array, int) {
	n := 1
	if len(a.Shape) > 0 {
		n = a.Shape[0]
	}
	switch f {
	case impl.MonIota:
		return modelIota(a)
	case impl.MonShape:
		return vectorOf(a.Shape...), 0
	case impl.MonRavel:
		return vectorOf(a.Data...), 0
	case impl.MonRev:
		return build(a.Shape, func(index []int) (int, int) {
			if len(index) > 0 {
				index[0] = n - 1 - index[0]
			}
			return cellAt(a, index), 0
		})
	case impl.MonFlip:
		shape := slices.Clone(a.Shape)
		slices.Reverse(shape)
		return build(shape, func(index []int) (int, int) {
			slices.Reverse(index)
			return cellAt(a, index), 0
		})
	case impl.MonGrade:
		return modelGrade(a)
	}
	return scalarOf(n), 0
}

func modelIota(a impl.Array) (impl.Array, int) {
	switch {
	case len(a.Shape) > 0:
		return impl.Array{}, impl.Rank
	case a.Data[0] < 0:
		return impl.Array{}, impl.Domain
	}
	return build(a.Data, func(index []int) (int, int) { return index[0], 0 })
}

func modelGrade(a impl.Array) (impl.Array, int) {
	if len(a.Shape) != 1 {
		return impl.Array{}, impl.Rank
	}
	order := counted(0, 1, a.Shape[0])
	sort.Slice(order.Data, func(i, j int) bool {
		p, q := order.Data[i], order.Data[j]
		return a.Data[p] < a.Data[q] || a.Data[p] == a.Data[q] && p < q
	})
	return order, 0
}

func modelDyad(f int, a, b impl.Array) (impl.Array, int) {
	switch f {
	case impl.DyaReshape:
		return modelReshape(a, b)
	case impl.DyaTake:
		return modelTake(a, b)
	case impl.DyaDrop:
		return modelDrop(a, b)
	case impl.DyaCat:
		return modelCat(a, b)
	case impl.DyaFrom:
		return modelFrom(a, b)
	case impl.DyaFind:
		if len(a.Shape) != 1 {
			return impl.Array{}, impl.Rank
		}
		return build(b.Shape, func(index []int) (int, int) {
			at := slices.Index(a.Data, cellAt(b, index))
			return map[bool]int{true: len(a.Data), false: at}[at < 0], 0
		})
	}
	return scalarOf(map[bool]int{true: 1}[same(a, b)]), 0
}

func modelReshape(a, b impl.Array) (impl.Array, int) {
	cells := 1
	switch {
	case len(a.Shape) > 1:
		return impl.Array{}, impl.Rank
	case len(a.Data) > impl.MaxRank:
		return impl.Array{}, impl.Limit
	case len(a.Data) > 0 && slices.Min(a.Data) < 0:
		return impl.Array{}, impl.Domain
	case !fits(a.Data):
		return impl.Array{}, impl.Limit
	}
	for _, length := range a.Data {
		cells *= length
	}
	if cells > 0 && len(b.Data) == 0 {
		return impl.Array{}, impl.Length
	}
	place := -1
	return build(a.Data, func([]int) (int, int) {
		place++
		return b.Data[place%len(b.Data)], 0
	})
}

func vectorIfScalar(a impl.Array) impl.Array {
	if len(a.Shape) == 0 {
		return vectorOf(a.Data...)
	}
	return a
}

func modelTake(a, b impl.Array) (impl.Array, int) {
	if len(a.Shape) > 0 {
		return impl.Array{}, impl.Rank
	}
	b = vectorIfScalar(b)
	wanted, shift := a.Data[0], 0
	if wanted < 0 {
		wanted = -wanted
		shift = b.Shape[0] - wanted
	}
	return build(joinShapes([]int{wanted}, b.Shape[1:]), func(index []int) (int, int) {
		index[0] += shift
		if index[0] < 0 || index[0] >= b.Shape[0] {
			return 0, 0
		}
		return cellAt(b, index), 0
	})
}

func modelDrop(a, b impl.Array) (impl.Array, int) {
	if len(a.Shape) > 0 {
		return impl.Array{}, impl.Rank
	}
	b = vectorIfScalar(b)
	shift, left := a.Data[0], b.Shape[0]-a.Data[0]
	if shift < 0 {
		shift, left = 0, b.Shape[0]+a.Data[0]
	}
	return build(joinShapes([]int{max(left, 0)}, b.Shape[1:]), func(index []int) (int, int) {
		index[0] += shift
		return cellAt(b, index), 0
	})
}

func modelCat(a, b impl.Array) (impl.Array, int) {
	a, b = vectorIfScalar(a), vectorIfScalar(b)
	if len(a.Shape) == len(b.Shape)-1 {
		a = made(joinShapes([]int{1}, a.Shape), a.Data...)
	} else if len(b.Shape) == len(a.Shape)-1 {
		b = made(joinShapes([]int{1}, b.Shape), b.Data...)
	}
	if len(a.Shape) != len(b.Shape) {
		return impl.Array{}, impl.Rank
	}
	if !slices.Equal(a.Shape[1:], b.Shape[1:]) {
		return impl.Array{}, impl.Length
	}
	return build(joinShapes([]int{a.Shape[0] + b.Shape[0]}, a.Shape[1:]), func(index []int) (int, int) {
		if index[0] < a.Shape[0] {
			return cellAt(a, index), 0
		}
		index[0] -= a.Shape[0]
		return cellAt(b, index), 0
	})
}

func modelFrom(a, b impl.Array) (impl.Array, int) {
	if len(b.Shape) == 0 {
		return impl.Array{}, impl.Rank
	}
	shape := joinShapes(a.Shape, b.Shape[1:])
	for _, row := range a.Data {
		if fits(shape) && (row < 0 || row >= b.Shape[0]) {
			return impl.Array{}, impl.Index
		}
	}
	return build(shape, func(index []int) (int, int) {
		row := cellAt(a, index[:len(a.Shape)])
		return cellAt(b, joinShapes([]int{row}, index[len(a.Shape):])), 0
	})
}

// differ tells of an answer that is not the model's.
func differ(t *testing.T, what string, arrays []impl.Array, got impl.Array, code int, want impl.Array, wantCode int) {
	t.Helper()
	if g, w := show(got, code), show(want, wantCode); g != w {
		for _, a := range arrays {
			what += " [" + short(show(a, 0)) + "]"
		}
		t.Errorf("%s: %q, not %q", what, short(g), short(w))
	}
}

func TestOneArrayAgainstModel(t *testing.T) {
	for _, a := range pool() {
		list := []impl.Array{a}
		for op := 1; op <= 10; op++ {
			number := strconv.Itoa(op)
			got, code := impl.Reduce(op, a)
			want, wantCode := modelReduce(op, a)
			differ(t, "Reduce "+number, list, got, code, want, wantCode)
			got, code = impl.Scan(op, a)
			want, wantCode = modelScan(op, a)
			differ(t, "Scan "+number, list, got, code, want, wantCode)
			if op <= impl.OneNot {
				got, code = impl.Each1(op, a)
				want, wantCode = modelEach1(op, a)
				differ(t, "Each1 "+number, list, got, code, want, wantCode)
			}
			if op <= impl.MonCount {
				got, code = impl.Monad(op, a)
				want, wantCode = modelMonad(op, a)
				differ(t, "Monad "+number, list, got, code, want, wantCode)
			}
		}
	}
}

func TestTwoArraysAgainstModel(t *testing.T) {
	for _, a := range pool() {
		for _, b := range pool() {
			list := []impl.Array{a, b}
			for op := 1; op <= 10; op++ {
				number := strconv.Itoa(op)
				got, code := impl.Each2(op, a, b)
				want, wantCode := modelEach2(op, a, b)
				differ(t, "Each2 "+number, list, got, code, want, wantCode)
				got, code = impl.Outer(op, a, b)
				want, wantCode = modelOuter(op, a, b)
				differ(t, "Outer "+number, list, got, code, want, wantCode)
				if op <= impl.DyaMatch {
					got, code = impl.Dyad(op, a, b)
					want, wantCode = modelDyad(op, a, b)
					differ(t, "Dyad "+number, list, got, code, want, wantCode)
				}
			}
		}
	}
}

func TestInnerAgainstModel(t *testing.T) {
	for _, a := range pool() {
		for _, b := range pool() {
			for f := 1; f <= 10; f++ {
				for g := 1; g <= 10; g++ {
					got, code := impl.Inner(f, g, a, b)
					want, wantCode := modelInner(f, g, a, b)
					differ(t, "Inner "+strconv.Itoa(f)+" "+strconv.Itoa(g), []impl.Array{a, b}, got, code, want, wantCode)
				}
			}
		}
	}
}
