package tests

import (
	"slices"
	"strings"
	"sync"
	"testing"

	"loop.example/s02135/impl"
)

// Texts whose value is an array that was put as it was handed in, or that a
// kernel made.
var texts = []string{
	"w", "1 2 3", "5", "x := w; x", "x := 1 2 3; x", "x := w; x; x", "F := {w}; F w", "F := {a}; w F 1", "F := {w}; F 1 2 3", "F := {1 : w; 0}; F w", "F := {0 : w; w}; F w", "F := {1 2 3}; F w", "w := 1 2; w", "rev w", "rev 5", "cat w", "flip 2 1 rho 1 2", "+\\ w", "+\\ 5", "+/ 5", "rho w", "roll 5 5", "w + 0", "0 drop w", "0 cat w", "1 take w", "w match w",
}

func TestAValueIsNewMemory(t *testing.T) {
	for _, text := range texts {
		for _, w := range []impl.Array{scalarOf(7), vectorOf(1, 2, 3), vectorOf(), counted(1, 1, 2, 2), counted(1, 1, 1, 2, 3)} {
			p := parsed(t, text, 0, 0)
			before := clonedProgram(p)
			checkMemory(t, text, func(arrays []impl.Array) (impl.Array, int) {
				o := impl.Run(p, arrays[0], plenty())
				for _, list := range slices.Concat(listsOf(p), []stretch{stretchOf(arrays[0].Shape), stretchOf(arrays[0].Data)}) {
					if stretchOf(o.Value.Shape).meets(list) || stretchOf(o.Value.Data).meets(list) {
						t.Errorf("%q: the value shares memory with an argument", text)
					}
				}
				return o.Value, o.Code
			}, w)
			if !samePrograms(p, before) {
				t.Errorf("%q: writing into the value made %v of the program", text, p)
			}
		}
	}
}

func listsOf(p []impl.Stmt) []stretch {
	lists, _ := memoryOf(p)
	return lists
}

func TestAValueOfListsThatShareMemory(t *testing.T) {
	one := []int{1}
	for _, text := range []string{"w", "F := {w}; F w", "x := w; x", "rev w", "- w"} {
		o := impl.Run(parsed(t, text, 0, 0), impl.Array{Shape: one, Data: one}, plenty())
		if o.Kind != impl.DidValue || stretchOf(o.Value.Shape).meets(stretchOf(o.Value.Data)) {
			t.Errorf("%q: %s, or its lists share memory", text, told(o))
		}
	}
	if one[0] != 1 {
		t.Errorf("%v", one)
	}
}

func TestRunChangesNothing(t *testing.T) {
	r := &player{dice: dice{41}, rolls: true}
	for range 5000 {
		text, w, l := r.text(), roomy(r.array()), r.limits()
		p := parsed(t, text, 0, 0)
		program, cells := clonedProgram(p), everything(w)
		impl.Run(p, w, l)
		if !samePrograms(p, program) || !slices.Equal(cells, everything(w)) {
			t.Fatalf("%q changed what it was given", text)
		}
	}
}

// Numbers with room behind them, so that an append to them is seen.
func TestRunWritesNotBehindNumbers(t *testing.T) {
	room := []int{1, 2, 3, 77, 77, 77, 77, 77}
	for _, text := range []string{"0", "x := 0; 4 cat x cat 5", "- 0", "F := {w cat w}; F 0", "rev 0", "2 cat 0"} {
		p := parsed(t, text, 0, 0)
		for i := range p {
			for j, s := range p[i].Code {
				if words(s.Nums) == "0" {
					p[i].Code[j].Nums = room[:3]
				}
			}
		}
		impl.Run(p, scalarOf(7), plenty())
		if words(room) != "1 2 3 77 77 77 77 77" {
			t.Fatalf("%q made %v", text, room)
		}
	}
}

// An outcome stays when program and array are written over, and runs in
// between leave nothing behind: no names, no functions, no state.
func TestRunKeepsNothing(t *testing.T) {
	for _, text := range texts {
		p, w := parsed(t, text, 0, 0), counted(1, 1, 3)
		o := impl.Run(p, w, plenty())
		before := told(o)
		spoil(w.Data)
		spoil(w.Shape)
		for i := range p {
			for _, s := range p[i].Code {
				spoil(s.Nums)
			}
		}
		impl.Run(parsed(t, "x := 9; a := 9; w := 9; F := {9}; G := {9}; roll 9 9 9", 0, 0), scalarOf(9), plenty())
		impl.Run(parsed(t, "F := {self w}; F roll 9", 0, 0), scalarOf(9), plenty())
		again := impl.Run(parsed(t, text, 0, 0), counted(1, 1, 3), plenty())
		if told(o) != before || told(again) != before {
			t.Errorf("%q: %s, then %s and %s", text, before, told(o), told(again))
		}
	}
	for _, text := range []string{"x", "a", "F w", "G w", "self w"} {
		if o := impl.Run(parsed(t, text, 0, 0), scalarOf(9), plenty()); o.Code != impl.NoName {
			t.Errorf("%q: %s", text, told(o))
		}
	}
}

// Runs beside each other share the program and the array, which they only read.
func TestRunsBesideEachOther(t *testing.T) {
	r := &player{dice: dice{42}, rolls: true}
	for range 200 {
		text, w, l := r.text(), r.array(), r.limits()
		p := parsed(t, text, 0, 0)
		want := told(impl.Run(p, w, l))
		got := make([]string, 8)
		var all sync.WaitGroup
		for i := range got {
			all.Add(1)
			go func() {
				defer all.Done()
				got[i] = told(impl.Run(p, w, l))
			}()
		}
		all.Wait()
		if strings.Join(got, "") != strings.Repeat(want, len(got)) {
			t.Errorf("%q: %s beside each other, %s alone", text, got, want)
		}
	}
}
