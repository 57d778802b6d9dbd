package tests

import (
	"slices"
	"strings"
	"testing"
	"unsafe"

	"loop.example/s02135/impl"
)

// stretch is the memory of a list or a text, with the room behind it.
type stretch struct{ from, end uintptr }

func stretchOf[E any](list []E) stretch {
	from := uintptr(unsafe.Pointer(unsafe.SliceData(list)))
	var one E
	return stretch{from, from + uintptr(cap(list))*unsafe.Sizeof(one)}
}

func stretchOfText(text string) stretch {
	from := uintptr(unsafe.Pointer(unsafe.StringData(text)))
	return stretch{from, from + uintptr(len(text))}
}

func (s stretch) meets(o stretch) bool {
	return s.from < s.end && o.from < o.end && s.from < o.end && o.from < s.end
}

// memoryOf gives the stretches of all lists of a program, and of all names.
func memoryOf(p []impl.Stmt) (lists, names []stretch) {
	code := func(steps []impl.Step) {
		lists = append(lists, stretchOf(steps))
		for _, s := range steps {
			lists = append(lists, stretchOf(s.Nums))
			names = append(names, stretchOfText(s.Name), stretchOfText(s.Fn.Name))
		}
	}
	lists = append(lists, stretchOf(p))
	for _, s := range p {
		names = append(names, stretchOfText(s.Name))
		lists = append(lists, stretchOf(s.Guards))
		code(s.Code)
		for _, g := range s.Guards {
			code(g.Test)
			code(g.Then)
		}
	}
	return lists, names
}

const wordyText = "x := 1 2 3 - 4 5; F := {w : 1 2; a : w F 3 4; self w - 1}\n(1 2) + F x\n(1 2) + F x\n"

func TestAParsedProgramIsNewMemory(t *testing.T) {
	text := strings.Clone(wordyText)
	p := parsed(t, text, 0, 0)
	lists, names := memoryOf(p)
	for i, list := range lists {
		for _, other := range lists[i+1:] {
			if list.meets(other) {
				t.Errorf("two lists of the program share memory")
			}
		}
	}
	for _, name := range names {
		if name.meets(stretchOfText(text)) {
			t.Errorf("a name shares memory with the text")
		}
	}
}

func clonedSteps(steps []impl.Step) []impl.Step {
	steps = slices.Clone(steps)
	for i := range steps {
		steps[i].Nums = slices.Clone(steps[i].Nums)
	}
	return steps
}

func clonedProgram(p []impl.Stmt) []impl.Stmt {
	p = slices.Clone(p)
	for i := range p {
		p[i].Code = clonedSteps(p[i].Code)
		p[i].Guards = slices.Clone(p[i].Guards)
		for g, guard := range p[i].Guards {
			p[i].Guards[g] = impl.Guard{Test: clonedSteps(guard.Test), Then: clonedSteps(guard.Then)}
		}
	}
	return p
}

func TestPrintChangesNothing(t *testing.T) {
	a := &author{dice: dice{9}, grammar: newGrammar()}
	for range 2000 {
		p := a.program()
		if len(p) > 0 && a.throw(2) == 0 {
			a.spoiled(p)
		}
		before := clonedProgram(p)
		impl.Print(p)
		if !samePrograms(p, before) {
			t.Fatalf("Print made %v of %v", p, before)
		}
	}
}

// What is printed twice, or read twice, is the same both times.
func TestSyntaxKeepsNothing(t *testing.T) {
	p := parsed(t, wordyText, 0, 0)
	first, _ := impl.Print(p)
	for _, text := range []string{"$", "w w", strings.Repeat("(", 50), "G := {w}"} {
		impl.Parse(text)
	}
	p[0].Code[0].Nums[0] = 77
	again := parsed(t, wordyText, 0, 0)
	if second, ok := impl.Print(again); second != first || !ok {
		t.Errorf("%q and then %q", first, second)
	}
}
