package tests

import (
	"slices"
	"strconv"
	"strings"
	"testing"

	"loop.example/s02135/impl"
)

// made builds an array without the help of ParseArray, so that the tests of
// the kernels do not lean on the reader.
func made(shape []int, data ...int) impl.Array {
	return impl.Array{Shape: shape, Data: data}
}

func scalarOf(cell int) impl.Array { return made(nil, cell) }

func vectorOf(cells ...int) impl.Array { return made([]int{len(cells)}, cells...) }

// counted has the cells start, start+step, ..
func counted(start, step int, shape ...int) impl.Array {
	n := 1
	for _, length := range shape {
		n *= length
	}
	data := make([]int, n)
	for i := range data {
		data[i] = start + step*i
	}
	return made(shape, data...)
}

// pool has valid arrays of each number of axes, with and without cells, small
// ones and those that reach a limit.
func pool() []impl.Array {
	const most = impl.MaxValue
	return []impl.Array{
		scalarOf(0), scalarOf(1), scalarOf(-1), scalarOf(2), scalarOf(-3), scalarOf(7), scalarOf(1000), scalarOf(-1000), scalarOf(1001), scalarOf(most), scalarOf(-most),
		vectorOf(), vectorOf(0), vectorOf(5), vectorOf(2, 3), vectorOf(-1, 1001), vectorOf(1001, 0), vectorOf(0, 1), vectorOf(0, 7, 1000), vectorOf(1000, 1000, 0), vectorOf(1000, 2, 1),
		vectorOf(3, 1, 2, 1, 0, -4, 3), vectorOf(1, 0, 1, 1), vectorOf(most, most, 0), vectorOf(most, -most, 1), vectorOf(-7, 7, -7), vectorOf(2, -2, 0), vectorOf(1, 1, 1, 1),
		counted(-500, 1, 1000), counted(999, -1, 1000),
		counted(0, 0, 0, 0), counted(0, 0, 0, 3), counted(0, 0, 3, 0), counted(0, 0, 1000, 0), counted(0, 0, 0, 1000), counted(4, 3, 1, 1), counted(1, 1, 2, 3), counted(6, -2, 3, 2), counted(-1, 1, 2, 2), counted(1, -1, 1, 7), counted(1, 1, 3, 3), counted(0, 1, 25, 40),
		made([]int{3, 2}, most, 0, most, 1, 0, 2), made([]int{2, 2}, most, -most, -most, most),
		counted(0, 0, 0, 0, 0), counted(0, 0, 2, 0, 3), counted(0, 0, 0, 1000, 1000), counted(0, 0, 1000, 1000, 0), counted(0, 0, 1000, 0, 1000), counted(9, 1, 1, 1, 1), counted(-3, 1, 1, 2, 3), counted(1, 1, 2, 2, 2), counted(5, -1, 3, 2, 1), counted(0, 1, 10, 10, 10),
	}
}

// badArrays are not valid, each for another reason.
func badArrays() []impl.Array {
	return []impl.Array{
		{},
		made([]int{2}, 1),
		made([]int{1}, 1, 2),
		made([]int{0}, 1),
		made(nil, 1, 2),
		made([]int{-1}),
		made([]int{-1, -1}, 1),
		made([]int{1, 1, 1, 1}, 1),
		made([]int{0, 0, 0, 0}),
		made([]int{1001, 0}),
		made([]int{1 << 62, 4}),
		counted(0, 0, 1001),
		counted(0, 0, 2, 501),
		counted(0, 0, 7, 11, 13),
		scalarOf(impl.MaxValue + 1),
		vectorOf(1, 2, -impl.MaxValue-1),
	}
}

func same(a, b impl.Array) bool {
	return slices.Equal(a.Shape, b.Shape) && slices.Equal(a.Data, b.Data)
}

// show is a plain text of an answer, also of one that is wrong.
func show(a impl.Array, code int) string {
	if code != 0 {
		if len(a.Shape) != 0 || len(a.Data) != 0 {
			return "an array beside code " + strconv.Itoa(code)
		}
		return "code " + strconv.Itoa(code)
	}
	if !impl.ArrayOk(a) {
		return "an array that is not valid"
	}
	return words(a.Shape) + ":" + words(a.Data)
}

func words(numbers []int) string {
	list := make([]string, len(numbers))
	for i, number := range numbers {
		list[i] = strconv.Itoa(number)
	}
	return strings.Join(list, " ")
}

// of reads a text that the test writes; a wrong one is the test's mistake.
func of(t *testing.T, text string) impl.Array {
	t.Helper()
	a, code := impl.ParseArray(text)
	if code != 0 {
		t.Fatalf("the test's array %q is none", text)
	}
	return a
}

// short keeps the message of a test readable.
func short(text string) string {
	if len(text) > 60 {
		return text[:60] + ".."
	}
	return text
}
