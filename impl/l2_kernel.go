package impl

import (
	"cmp"
	"slices"
)

const OpAdd = 1
const OpSub = 2
const OpMul = 3
const OpDiv = 4
const OpMod = 5
const OpMin = 6
const OpMax = 7
const OpLess = 8
const OpEqual = 9
const OpMore = 10

const OneNeg = 1
const OneAbs = 2
const OneSign = 3
const OneNot = 4

const MonIota = 1
const MonShape = 2
const MonRavel = 3
const MonRev = 4
const MonFlip = 5
const MonGrade = 6
const MonCount = 7

const DyaReshape = 1
const DyaTake = 2
const DyaDrop = 3
const DyaCat = 4
const DyaFrom = 5
const DyaFind = 6
const DyaMatch = 7

// Each1 does something to each cell.
func Each1(op int, a Array) (Array, int) {
	return answer(func() Array {
		needValid(a)
		return each1(oneOf(op), a)
	})
}

// Each2 does an operation to cells in the same places.
func Each2(op int, a Array, b Array) (Array, int) {
	return answer(func() Array {
		needValid(a, b)
		return each2(operationOf(op), a, b)
	})
}

// Monad does something to one array.
func Monad(f int, a Array) (Array, int) {
	return answer(func() Array {
		needValid(a)
		return monadOf(f)(a)
	})
}

// Dyad does something to two arrays.
func Dyad(f int, a Array, b Array) (Array, int) {
	return answer(func() Array {
		needValid(a, b)
		return dyadOf(f)(a, b)
	})
}

// Reduce puts an operation between rows.
func Reduce(op int, a Array) (Array, int) {
	return answer(func() Array {
		needValid(a)
		return reduce(operationOf(op), a)
	})
}

// Scan reduces all beginnings.
func Scan(op int, a Array) (Array, int) {
	return answer(func() Array {
		needValid(a)
		return scan(operationOf(op), a)
	})
}

// Outer does an operation to all pairs of cells.
func Outer(op int, a Array, b Array) (Array, int) {
	return answer(func() Array {
		needValid(a, b)
		return outer(operationOf(op), a, b)
	})
}

// Inner is the inner product.
func Inner(f int, g int, a Array, b Array) (Array, int) {
	return answer(func() Array {
		needValid(a, b)
		return inner(operationOf(f), operationOf(g), a, b)
	})
}

// fault is a code on its way from inside a kernel to the face.
type fault int

// answer is what all faces share: the code that a kernel was left with becomes
// the answer. A panic of another kind would be a mistake of the program and is
// not passed off as a code.
func answer(kernel func() Array) (a Array, code int) {
	defer func() {
		thrown := recover()
		if f, ok := thrown.(fault); ok {
			a, code = Array{}, int(f)
		} else if thrown != nil {
			panic(thrown)
		}
	}()
	return kernel(), 0
}

// refuse leaves the kernel with a code. Its calls stand in the order of the
// document's list, so that the first code that applies is the answer.
func refuse(when bool, code int) {
	if when {
		panic(fault(code))
	}
}

func needValid(arrays ...Array) {
	for _, a := range arrays {
		refuse(!ArrayOk(a), BadArray)
	}
}

func needFit(shape []int) {
	refuse(!shapeFits(shape), Limit)
}

// operation is one on two cells, with what a Reduce of no rows gives for it.
type operation struct {
	do         func(x, y int) int
	forNothing int
	noNothing  bool
}

func operationOf(op int) operation {
	return chosen(op, []operation{
		OpAdd:   {do: cellAdd},
		OpSub:   {do: cellSub},
		OpMul:   {do: cellMul, forNothing: 1},
		OpDiv:   {do: cellDiv, forNothing: 1},
		OpMod:   {do: cellMod},
		OpMin:   {do: cellMin, forNothing: MaxValue},
		OpMax:   {do: cellMax, forNothing: -MaxValue},
		OpLess:  {do: cellLess, noNothing: true},
		OpEqual: {do: cellEqual, noNothing: true},
		OpMore:  {do: cellMore, noNothing: true},
	})
}

func oneOf(op int) func(x int) int {
	return chosen(op, []func(x int) int{
		OneNeg:  cellNeg,
		OneAbs:  cellAbs,
		OneSign: cellSign,
		OneNot:  cellNot,
	})
}

func monadOf(f int) func(a Array) Array {
	return chosen(f, []func(a Array) Array{
		MonIota:  countUp,
		MonShape: shapeOf,
		MonRavel: ravel,
		MonRev:   rev,
		MonFlip:  flip,
		MonGrade: grade,
		MonCount: count,
	})
}

func dyadOf(f int) func(a, b Array) Array {
	return chosen(f, []func(a, b Array) Array{
		DyaReshape: reshape,
		DyaTake:    take,
		DyaDrop:    drop,
		DyaCat:     cat,
		DyaFrom:    from,
		DyaFind:    find,
		DyaMatch:   match,
	})
}

// chosen leaves out place 0 of a table: no operation has that number.
func chosen[E any](number int, table []E) E {
	refuse(number < 1 || number >= len(table), BadArray)
	return table[number]
}

func cellAdd(x, y int) int { return inRange(x + y) }

func cellSub(x, y int) int { return inRange(x - y) }

func cellMul(x, y int) int { return inRange(x * y) }

func cellDiv(x, y int) int {
	refuse(y == 0, Domain)
	quotient := x / y
	// Go rounds towards 0, which is up where the signs differ.
	if x%y != 0 && (x < 0) != (y < 0) {
		quotient--
	}
	return quotient
}

func cellMod(x, y int) int {
	if y == 0 {
		return x
	}
	return x - y*cellDiv(x, y)
}

func cellMin(x, y int) int { return min(x, y) }

func cellMax(x, y int) int { return max(x, y) }

func cellLess(x, y int) int { return truth(x < y) }

func cellEqual(x, y int) int { return truth(x == y) }

func cellMore(x, y int) int { return truth(x > y) }

func cellNeg(x int) int { return -x }

func cellAbs(x int) int { return max(x, -x) }

func cellSign(x int) int { return cmp.Compare(x, 0) }

func cellNot(x int) int {
	refuse(x != 0 && x != 1, Domain)
	return 1 - x
}

func inRange(value int) int {
	refuse(!valueFits(value), Overflow)
	return value
}

func truth(holds bool) int {
	if holds {
		return 1
	}
	return 0
}

func isScalar(a Array) bool { return len(a.Shape) == 0 }

func scalar(cell int) Array { return Array{Data: []int{cell}} }

func vector(cells []int) Array { return Array{Shape: []int{len(cells)}, Data: cells} }

// joined is new memory even where only one list is given or has an element.
func joined(lists ...[]int) []int { return slices.Concat(lists...) }

func copied(a Array) Array {
	return Array{Shape: joined(a.Shape), Data: joined(a.Data)}
}

// withAxes makes a vector of a scalar. Like asRow it shares memory with its
// argument, so what it gives is read only.
func withAxes(a Array) Array {
	if isScalar(a) {
		return vector(a.Data)
	}
	return a
}

func asRow(a Array) Array {
	return Array{Shape: joined([]int{1}, a.Shape), Data: a.Data}
}

// rows are the cells from row first up to row end, size being a row's cells.
func rows(data []int, size, first, end int) []int {
	return data[first*size : end*size]
}

func each1(one func(x int) int, a Array) Array {
	data := make([]int, len(a.Data))
	for i, x := range a.Data {
		data[i] = one(x)
	}
	return Array{Shape: joined(a.Shape), Data: data}
}

func each2(op operation, a, b Array) Array {
	if isScalar(a) {
		return each1(func(y int) int { return op.do(a.Data[0], y) }, b)
	}
	if isScalar(b) {
		return each1(func(x int) int { return op.do(x, b.Data[0]) }, a)
	}
	refuse(len(a.Shape) != len(b.Shape), Rank)
	refuse(!slices.Equal(a.Shape, b.Shape), Length)
	data := make([]int, len(a.Data))
	for i, x := range a.Data {
		data[i] = op.do(x, b.Data[i])
	}
	return Array{Shape: joined(a.Shape), Data: data}
}

func reduce(op operation, a Array) Array {
	if isScalar(a) {
		return copied(a)
	}
	row := a.Shape[1:]
	if a.Shape[0] > 0 {
		return Array{Shape: joined(row), Data: fold(op, a.Data, a.Shape[0])}
	}
	refuse(op.noNothing, Domain)
	needFit(row)
	return Array{Shape: joined(row), Data: slices.Repeat([]int{op.forNothing}, cellCount(row))}
}

// fold goes row by row and not cell by cell, as the code of an earlier step
// comes ahead of that of an earlier cell.
func fold(op operation, data []int, n int) []int {
	size := len(data) / n
	folded := joined(rows(data, size, n-1, n))
	for r := n - 2; r >= 0; r-- {
		for i, x := range rows(data, size, r, r+1) {
			folded[i] = op.do(x, folded[i])
		}
	}
	return folded
}

// scan does nothing to an array without cells: there no step can have a code,
// and a thousand rows would be folded for no cell.
func scan(op operation, a Array) Array {
	if isScalar(a) || len(a.Data) == 0 {
		return copied(a)
	}
	size := len(a.Data) / a.Shape[0]
	data := make([]int, 0, len(a.Data))
	for n := 1; n <= a.Shape[0]; n++ {
		data = append(data, fold(op, rows(a.Data, size, 0, n), n)...)
	}
	return Array{Shape: joined(a.Shape), Data: data}
}

func outer(op operation, a, b Array) Array {
	shape := joined(a.Shape, b.Shape)
	needFit(shape)
	data := make([]int, 0, cellCount(shape))
	for _, x := range a.Data {
		for _, y := range b.Data {
			data = append(data, op.do(x, y))
		}
	}
	return Array{Shape: shape, Data: data}
}

func inner(f, g operation, a, b Array) Array {
	refuse(isScalar(a) || isScalar(b), Rank)
	last := len(a.Shape) - 1
	length := b.Shape[0]
	refuse(a.Shape[last] != length, Length)
	shape := joined(a.Shape[:last], b.Shape[1:])
	needFit(shape)
	columns := cellCount(b.Shape[1:])
	data := make([]int, cellCount(shape))
	for at := range data {
		row, column := at/columns, at%columns
		// All of g is done ahead of f, so that its codes come first.
		along := make([]int, length)
		for i, x := range rows(a.Data, length, row, row+1) {
			along[i] = g.do(x, b.Data[i*columns+column])
		}
		data[at] = reduce(f, vector(along)).Data[0]
	}
	return Array{Shape: shape, Data: data}
}

func countUp(a Array) Array {
	refuse(!isScalar(a), Rank)
	length := a.Data[0]
	refuse(length < 0, Domain)
	refuse(length > MaxCells, Limit)
	return vector(positions(length))
}

func positions(length int) []int {
	list := make([]int, length)
	for i := range list {
		list[i] = i
	}
	return list
}

func shapeOf(a Array) Array { return vector(joined(a.Shape)) }

func ravel(a Array) Array { return vector(joined(a.Data)) }

func rev(a Array) Array {
	if isScalar(a) {
		return copied(a)
	}
	size := cellCount(a.Shape[1:])
	data := make([]int, 0, len(a.Data))
	for r := a.Shape[0] - 1; r >= 0; r-- {
		data = append(data, rows(a.Data, size, r, r+1)...)
	}
	return Array{Shape: joined(a.Shape), Data: data}
}

// flip goes through the places of the answer in their order and keeps, beside
// each place, where in a its cell lies.
func flip(a Array) Array {
	shape := joined(a.Shape)
	slices.Reverse(shape)
	strides := flippedStrides(a.Shape)
	place := make([]int, len(shape))
	source := 0
	data := make([]int, len(a.Data))
places:
	for i := range data {
		data[i] = a.Data[source]
		for axis := len(shape) - 1; axis >= 0; axis-- {
			place[axis]++
			source += strides[axis]
			if place[axis] < shape[axis] {
				continue places
			}
			source -= strides[axis] * shape[axis]
			place[axis] = 0
		}
	}
	return Array{Shape: shape, Data: data}
}

// flippedStrides tells for each axis of the flipped array how far apart in the
// array itself two neighbours along it lie.
func flippedStrides(shape []int) []int {
	strides := make([]int, len(shape))
	for axis := range shape {
		strides[len(shape)-1-axis] = cellCount(shape[axis+1:])
	}
	return strides
}

func grade(a Array) Array {
	refuse(len(a.Shape) != 1, Rank)
	order := positions(len(a.Data))
	slices.SortStableFunc(order, func(i, j int) int {
		return cmp.Compare(a.Data[i], a.Data[j])
	})
	return vector(order)
}

func count(a Array) Array {
	return scalar(withAxes(a).Shape[0])
}

func reshape(a, b Array) Array {
	refuse(len(a.Shape) > 1, Rank)
	refuse(len(a.Data) > MaxRank, Limit)
	for _, length := range a.Data {
		refuse(length < 0, Domain)
	}
	needFit(a.Data)
	data := make([]int, cellCount(a.Data))
	refuse(len(data) > 0 && len(b.Data) == 0, Length)
	for i := range data {
		data[i] = b.Data[i%len(b.Data)]
	}
	return Array{Shape: joined(a.Data), Data: data}
}

func take(a, b Array) Array {
	refuse(!isScalar(a), Rank)
	b = withAxes(b)
	wanted, n := cellAbs(a.Data[0]), b.Shape[0]
	shape := joined([]int{wanted}, b.Shape[1:])
	needFit(shape)
	size := cellCount(b.Shape[1:])
	there := min(wanted, n)
	data := make([]int, wanted*size)
	if a.Data[0] < 0 {
		copy(rows(data, size, wanted-there, wanted), rows(b.Data, size, n-there, n))
	} else {
		copy(data, rows(b.Data, size, 0, there))
	}
	return Array{Shape: shape, Data: data}
}

func drop(a, b Array) Array {
	refuse(!isScalar(a), Rank)
	b = withAxes(b)
	n := b.Shape[0]
	gone := min(cellAbs(a.Data[0]), n)
	first, end := gone, n
	if a.Data[0] < 0 {
		first, end = 0, n-gone
	}
	size := cellCount(b.Shape[1:])
	return Array{
		Shape: joined([]int{n - gone}, b.Shape[1:]),
		Data:  joined(rows(b.Data, size, first, end)),
	}
}

func cat(a, b Array) Array {
	a, b = withAxes(a), withAxes(b)
	switch len(a.Shape) - len(b.Shape) {
	case -1:
		a = asRow(a)
	case 1:
		b = asRow(b)
	}
	refuse(len(a.Shape) != len(b.Shape), Rank)
	refuse(!slices.Equal(a.Shape[1:], b.Shape[1:]), Length)
	shape := joined([]int{a.Shape[0] + b.Shape[0]}, a.Shape[1:])
	needFit(shape)
	return Array{Shape: shape, Data: joined(a.Data, b.Data)}
}

func from(a, b Array) Array {
	refuse(isScalar(b), Rank)
	shape := joined(a.Shape, b.Shape[1:])
	needFit(shape)
	size := cellCount(b.Shape[1:])
	data := make([]int, 0, cellCount(shape))
	for _, row := range a.Data {
		refuse(row < 0 || row >= b.Shape[0], Index)
		data = append(data, rows(b.Data, size, row, row+1)...)
	}
	return Array{Shape: shape, Data: data}
}

func find(a, b Array) Array {
	refuse(len(a.Shape) != 1, Rank)
	data := make([]int, len(b.Data))
cells:
	for i, wanted := range b.Data {
		for position, cell := range a.Data {
			if cell == wanted {
				data[i] = position
				continue cells
			}
		}
		data[i] = len(a.Data)
	}
	return Array{Shape: joined(b.Shape), Data: data}
}

func match(a, b Array) Array { return scalar(truth(sameArrays(a, b))) }

func sameArrays(a, b Array) bool {
	return slices.Equal(a.Shape, b.Shape) && slices.Equal(a.Data, b.Data)
}
