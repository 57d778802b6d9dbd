package tests

import (
	"slices"
	"strings"
	"testing"

	"loop.example/s02135/impl"
)

func sameSteps(a, b []impl.Step) bool {
	return slices.EqualFunc(a, b, func(x, y impl.Step) bool {
		return x.Kind == y.Kind && slices.Equal(x.Nums, y.Nums) && x.Name == y.Name && x.Fn == y.Fn
	})
}

func samePrograms(a, b []impl.Stmt) bool {
	return slices.EqualFunc(a, b, func(x, y impl.Stmt) bool {
		guards := slices.EqualFunc(x.Guards, y.Guards, func(g, h impl.Guard) bool {
			return sameSteps(g.Test, h.Test) && sameSteps(g.Then, h.Then)
		})
		return x.Kind == y.Kind && x.Name == y.Name && sameSteps(x.Code, y.Code) && guards
	})
}

// dice are throws that are the same in each run of the tests.
type dice struct{ state uint64 }

func (d *dice) throw(sides int) int {
	d.state = d.state*6364136223846793005 + 1442695040888963407
	return int(d.state >> 33 % uint64(sides))
}

func oneOf[E any](d *dice, list []E) E { return list[d.throw(len(list))] }

// checkParse holds Parse against the second reading, and what Print says of
// the program against the text.
func checkParse(t *testing.T, g grammar, text string) {
	t.Helper()
	want, wantCode, wantAt, ways := g.parse(text)
	if ways > 1 {
		t.Errorf("%q can be read in %d ways", text, ways)
	}
	got, code, at := impl.Parse(text)
	if code != wantCode || at != wantAt || !samePrograms(got, want) {
		t.Errorf("Parse(%q): %v %d %d, want %v %d %d", text, got, code, at, want, wantCode, wantAt)
	}
	if code == 0 {
		checkPrint(t, g, got)
	}
}

// checkPrint asks for promise 5 of a program that may be well formed or not.
func checkPrint(t *testing.T, g grammar, p []impl.Stmt) {
	t.Helper()
	want, wantOk := g.print(p)
	text, ok := impl.Print(p)
	if text != want || ok != wantOk {
		t.Errorf("Print(%v): %q %v, want %q %v", p, short(text), ok, short(want), wantOk)
	}
	if !ok {
		return
	}
	back, code, at := impl.Parse(text)
	if code != 0 || at != 0 || !samePrograms(back, p) {
		t.Errorf("Parse of Print: %q reads as %v, code %d, and was %v", text, back, code, p)
	}
}

// allTexts gives each text of so many of the tokens.
func allTexts(tokens []string, length int, give func(text string)) {
	chosen := make([]string, length)
	var choose func(at int)
	choose = func(at int) {
		if at == length {
			give(strings.Join(chosen, " "))
			return
		}
		for _, token := range tokens {
			chosen[at] = token
			choose(at + 1)
		}
	}
	choose(0)
}

func TestAllShortTexts(t *testing.T) {
	g := newGrammar()
	check := func(text string) { checkParse(t, g, text) }
	for length := 0; length <= 3; length++ {
		allTexts([]string{"w", "F", "self", "1", "+", "-", "~", "take", "iota", "roll", "/", "\\", "@", ".", "(", ")", "{", "}", ":", ":=", ";", "\n"}, length, check)
	}
	allTexts([]string{"w", "F", "1", "+", "-", "~", "/", "@", ".", "(", ")", ";"}, 4, check)
	allTexts([]string{"w", "F", "1", "-", "/", ".", "@", "(", ")"}, 5, check)
	// What can stand inside of the braces.
	allTexts([]string{"w", "1", "-", "(", ")", ":", ";", "}"}, 5, func(text string) { check("F := {" + text + "}") })
	allTexts([]string{"w", ":", ";", "}"}, 8, func(text string) { check("F := {" + text) })
	allTexts([]string{"x", "F", "w", ":=", "{", "}", ";"}, 5, check)
}

// Tokens that touch, and bytes that are none.
func TestAllShortTextsOfBytes(t *testing.T) {
	g := newGrammar()
	allTexts([]string{"w", "F", "1", "0", "_", "-", " ", "#", "\n", ":", "=", "$", "\x80", "."}, 4, func(text string) {
		checkParse(t, g, strings.ReplaceAll(text, " ", ""))
		checkParse(t, g, text)
	})
}

// author writes programs by chance, well formed ones.
type author struct {
	dice
	grammar
}

func (a *author) steps(depth int) []impl.Step {
	kind := a.throw(4)
	if depth == 0 {
		kind = a.throw(2)
	}
	switch kind {
	case 0:
		nums := make([]int, 1+a.throw(4))
		for i := range nums {
			nums[i] = oneOf(&a.dice, []int{0, 1, -1, 42, -7, impl.MaxValue, -impl.MaxValue})
		}
		return []impl.Step{{Kind: impl.StepNums, Nums: nums}}
	case 1:
		return []impl.Step{{Kind: impl.StepName, Name: oneOf(&a.dice, []string{"w", "a", "x1", "aVeryLongNameIndeed9", "maxi"})}}
	case 2:
		return append(a.steps(depth-1), impl.Step{Kind: impl.StepOne, Fn: a.fn(a.one)})
	}
	return append(append(a.steps(depth-1), a.steps(depth-1)...), impl.Step{Kind: impl.StepTwo, Fn: a.fn(a.two)})
}

func (a *author) fn(fns []placedFn) impl.Fn {
	if a.throw(4) == 0 {
		return impl.Fn{Kind: impl.FnCall, Name: oneOf(&a.dice, []string{"self", "F", "Go", "AVeryLongNameIndeed9"})}
	}
	return oneOf(&a.dice, fns).fn
}

func (a *author) program() []impl.Stmt {
	p := make([]impl.Stmt, a.throw(4))
	for i := range p {
		s := impl.Stmt{Kind: 1 + a.throw(3), Code: a.steps(a.throw(6))}
		switch s.Kind {
		case impl.StmtName:
			s.Name = oneOf(&a.dice, []string{"w", "x", "ab12"})
		case impl.StmtFunc:
			s.Name = oneOf(&a.dice, []string{"F", "Go", "X2"})
			for range a.throw(3) {
				s.Guards = append(s.Guards, impl.Guard{Test: a.steps(a.throw(3)), Then: a.steps(a.throw(3))})
			}
		}
		p[i] = s
	}
	return p
}

// spoiled puts into one place of a program what may not stand there.
func (a *author) spoiled(p []impl.Stmt) {
	s := &p[a.throw(len(p))]
	code := &s.Code
	if len(s.Guards) > 0 && a.throw(2) == 0 {
		g := &s.Guards[a.throw(len(s.Guards))]
		code = oneOf(&a.dice, []*[]impl.Step{&g.Test, &g.Then})
	}
	at := a.throw(len(*code))
	step := &(*code)[at]
	number := oneOf(&a.dice, []int{-1, 0, 1, 2, 3, 4, 5, 7, 8, 9, 10, 11, 100})
	name := oneOf(&a.dice, []string{"", "w", "x", "F", "self", "take", "max", "_", "1", "a b", "a_", "w ", "F\n", "é", "abcdefghijabcdefghijk", "Abcdefghijabcdefghijk", "Abcdefghijabcdefghij"})
	switch a.throw(14) {
	case 0:
		s.Kind = number
	case 1:
		s.Name = name
	case 2:
		s.Guards = append(s.Guards, impl.Guard{Test: a.steps(1), Then: a.steps(1)})
	case 3:
		s.Guards = append(s.Guards, impl.Guard{Test: a.steps(1)})
	case 4:
		*code = slices.Delete(*code, at, at+1)
	case 5:
		*code = slices.Insert(*code, at, a.steps(1)...)
	case 6:
		*code = append(*code, *step)
	case 7:
		step.Kind = number
	case 8:
		step.Nums = append(step.Nums, number)
	case 9:
		step.Nums = oneOf(&a.dice, [][]int{nil, {}, {impl.MaxValue + 1}, {1, -impl.MaxValue - 1}, make([]int, impl.MaxCells), make([]int, impl.MaxCells+1)})
	case 10:
		step.Name = name
	case 11:
		step.Fn.Name = name
	case 12:
		*oneOf(&a.dice, []*int{&step.Fn.Kind, &step.Fn.A, &step.Fn.B}) = number
	case 13:
		step.Fn = a.fn(slices.Concat(a.one, a.two))
	}
}

func TestPrintOfProgramsByChance(t *testing.T) {
	a := &author{grammar: newGrammar()}
	refused, long := 0, 0
	for range 20000 {
		p := a.program()
		if text, ok := impl.Print(p); !ok {
			long++
		} else if len(text) > impl.MaxText {
			t.Errorf("a text of %d bytes", len(text))
		}
		checkPrint(t, a.grammar, p)
		if len(p) == 0 {
			continue
		}
		a.spoiled(p)
		if _, ok := impl.Print(p); !ok {
			refused++
		}
		checkPrint(t, a.grammar, p)
	}
	if refused < 5000 || long > 1000 {
		t.Errorf("%d spoiled programs refused, %d good ones", refused, long)
	}
}

// mangled changes, puts in or leaves out a token.
func (a *author) mangled(tokens []string) []string {
	tokens = slices.Clone(tokens)
	token := oneOf(&a.dice, []string{"w", "F", "1", "+", "-", "~", "rev", "from", "self", "/", "\\", "@", ".", "(", ")", "{", "}", ":", ":=", ";", "\n", "$", "1a", "_", "3000000001", "# )\n"})
	at := a.throw(len(tokens) + 1)
	switch kind := a.throw(4); {
	case kind == 0 || at == len(tokens):
		return slices.Insert(tokens, at, token)
	case kind == 1:
		return slices.Delete(tokens, at, at+1)
	case kind == 2:
		tokens[at] = token
	default:
		other := a.throw(len(tokens))
		tokens[at], tokens[other] = tokens[other], tokens[at]
	}
	return tokens
}

func TestParseOfTextsByChance(t *testing.T) {
	a := &author{dice: dice{5}, grammar: newGrammar()}
	for range 10000 {
		text, ok := impl.Print(a.program())
		if !ok || len(text) > 300 {
			continue
		}
		tokens, bad := modelTokens(text)
		if bad >= 0 {
			t.Fatalf("%q has a bad token at %d", text, bad)
		}
		for range a.throw(3) {
			tokens = a.mangled(tokens)
		}
		blank := oneOf(&a.dice, []string{" ", "  ", "\t", "\r ", ""})
		checkParse(t, a.grammar, strings.Join(tokens, blank))
	}
}
