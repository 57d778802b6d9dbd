package tests

import (
	"slices"
	"strconv"
	"testing"

	"loop.example/s02135/impl"
)

// roomy is the same array with room behind its lists, so that a kernel that
// appends to an argument is seen.
func roomy(a impl.Array) impl.Array {
	return impl.Array{Shape: withRoom(a.Shape), Data: withRoom(a.Data)}
}

func withRoom(list []int) []int {
	room := make([]int, len(list)+4)
	copy(room, list)
	return room[:len(list)]
}

func whole(list []int) []int { return list[:cap(list)] }

func spoil(list []int) {
	for i := range whole(list) {
		whole(list)[i] = -77
	}
}

func everything(arrays ...impl.Array) []int {
	var cells []int
	for _, a := range arrays {
		cells = slices.Concat(cells, whole(a.Shape), whole(a.Data))
	}
	return cells
}

// checkMemory calls and then writes over all of the answer, list by list.
func checkMemory(t *testing.T, what string, call func(arrays []impl.Array) (impl.Array, int), arrays ...impl.Array) {
	t.Helper()
	for i, a := range arrays {
		arrays[i] = roomy(a)
	}
	before := everything(arrays...)
	got, code := call(arrays)
	if !slices.Equal(before, everything(arrays...)) {
		t.Errorf("%s, code %d, wrote into an argument", what, code)
	}
	data := slices.Clone(got.Data)
	spoil(got.Shape)
	if !slices.Equal(data, got.Data) {
		t.Errorf("%s: the lists of the answer share memory", what)
	}
	spoil(got.Data)
	if !slices.Equal(before, everything(arrays...)) {
		t.Errorf("%s: the answer shares memory with an argument", what)
	}
}

func TestAnswersAreNewMemory(t *testing.T) {
	for number := 1; number <= 10; number++ {
		for _, a := range pool() {
			if len(a.Data) > 100 {
				continue
			}
			for name, call := range oneArrayCalls(number) {
				checkMemory(t, name+" "+strconv.Itoa(number), func(arrays []impl.Array) (impl.Array, int) { return call(arrays[0]) }, a)
			}
			for _, b := range pool() {
				if len(b.Data) > 100 {
					continue
				}
				for name, call := range twoArrayCalls(number) {
					checkMemory(t, name+" "+strconv.Itoa(number), func(arrays []impl.Array) (impl.Array, int) { return call(arrays[0], arrays[1]) }, a, b)
				}
			}
		}
	}
}

// One array given twice is two arguments that share memory.
func TestAnArrayWithItself(t *testing.T) {
	for number := 1; number <= 10; number++ {
		for _, a := range pool() {
			for name, call := range twoArrayCalls(number) {
				b := impl.Array{Shape: slices.Clone(a.Shape), Data: slices.Clone(a.Data)}
				got, code := call(a, a)
				want, wantCode := call(a, b)
				if show(got, code) != show(want, wantCode) {
					t.Errorf("%s %d of %v with itself", name, number, a.Shape)
				}
			}
		}
	}
}

func TestAnArrayWhoseListsShareMemory(t *testing.T) {
	one := []int{1}
	a := impl.Array{Shape: one, Data: one}
	got, code := impl.Monad(impl.MonRev, a)
	checkMemory(t, "rev", func([]impl.Array) (impl.Array, int) { return got, code })
	if one[0] != 1 || code != 0 {
		t.Errorf("code %d, %v", code, one)
	}
}
