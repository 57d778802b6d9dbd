package tests

import (
	"slices"
	"strings"
	"testing"

	"loop.example/s02135/impl"
)

// arraysOf are all arrays of tests.
func arraysOf(tests []impl.Test) []impl.Array {
	var list []impl.Array
	for _, test := range tests {
		list = append(list, test.In, test.Want)
	}
	return list
}

// stretchesOf are the lists of arrays.
func stretchesOf(arrays []impl.Array) []stretch {
	var list []stretch
	for _, a := range arrays {
		list = append(list, stretchOf(a.Shape), stretchOf(a.Data))
	}
	return list
}

func checkApart(t *testing.T, what string, lists []stretch) {
	t.Helper()
	for i, list := range lists {
		for _, other := range lists[i+1:] {
			if list.meets(other) {
				t.Errorf("%s: two lists share memory", what)
			}
		}
	}
}

func TestParsedTestsAreNewMemory(t *testing.T) {
	text := strings.Repeat("2:1 2 => 2 2:1 2 3 4\n:5 => :5\n1 1:1 => 0:\n2:1 2 => 2:1 2\n", 5)
	tests, code, _ := impl.ParseTests(text)
	if code != 0 || len(tests) != impl.MaxTests {
		t.Fatalf("code %d, %d tests", code, len(tests))
	}
	checkApart(t, "ParseTests", append(stretchesOf(arraysOf(tests)), stretchOf(tests)))
	for _, a := range arraysOf(tests) {
		spoil(a.Shape)
		spoil(a.Data)
	}
	checkTests(t, text, text)
}

// roomyTests have one array in many places, and room behind each list.
func roomyTests() []impl.Test {
	one := roomy(vectorOf(1, 2, 3))
	list := make([]impl.Test, impl.MaxTests+4)
	for i := range list {
		list[i] = impl.Test{In: one, Want: one}
		if i%3 == 0 {
			list[i] = impl.Test{In: roomy(counted(i, 1, 2, 2)), Want: one}
		}
	}
	return list[:impl.MaxTests]
}

func TestOutcomesAreNewMemory(t *testing.T) {
	for _, source := range texts {
		tests := roomyTests()
		before := everything(arraysOf(tests[:cap(tests)])...)
		outcomes, code := impl.Outcomes(source, tests, plenty())
		values := make([]impl.Array, len(outcomes))
		for i, o := range outcomes {
			values[i] = o.Value
		}
		if code != 0 || len(outcomes) != impl.MaxTests {
			t.Fatalf("%q: code %d", source, code)
		}
		checkApart(t, source, append(stretchesOf(values), stretchOf(outcomes), stretchOf(tests)))
		for _, value := range values {
			spoil(value.Shape)
			spoil(value.Data)
		}
		if !slices.Equal(before, everything(arraysOf(tests[:cap(tests)])...)) {
			t.Errorf("%q: the outcomes share memory with the tests", source)
		}
	}
}

func TestGradingChangesNothing(t *testing.T) {
	r := &player{dice: dice{91}, rolls: true}
	for range 300 {
		g := r.grading()
		for i, test := range g.tests {
			g.tests[i] = impl.Test{In: roomy(test.In), Want: roomy(test.Want)}
		}
		before := everything(arraysOf(g.tests)...)
		outcomes, verdicts := g.ran(), g.judged()
		if !slices.Equal(before, everything(arraysOf(g.tests)...)) {
			t.Fatalf("%q changed its tests", g.source)
		}
		impl.Judge("x := 9; F := {9}; roll 9 9 9", sevens(5), seeded(5))
		if g.ran() != outcomes || g.judged() != verdicts {
			t.Fatalf("%q is graded in another way the second time", g.source)
		}
	}
}

// What was graded stays when the tests are written over.
func TestGradingKeepsNothing(t *testing.T) {
	for _, source := range texts {
		tests := roomyTests()
		outcomes, code := impl.Outcomes(source, tests, plenty())
		verdicts, ok := impl.Judge(source, tests, plenty())
		before := outcomesTold(outcomes, code) + verdictsTold(verdicts, ok)
		for i, a := range arraysOf(tests) {
			spoil(a.Shape)
			spoil(a.Data)
			tests[i/2] = impl.Test{}
		}
		if after := outcomesTold(outcomes, code) + verdictsTold(verdicts, ok); after != before {
			t.Errorf("%q: %s, and then %s", source, before, after)
		}
		checkOutcomes(t, source, roomyTests(), plenty(), outcomesTold(outcomes, code))
	}
}

// The first of two lists of verdicts stays when the second is written over.
func TestVerdictsAreNewMemory(t *testing.T) {
	for _, source := range []string{"w", "$", "1 % 0"} {
		first, _ := impl.Judge(source, sevens(3), plenty())
		second, _ := impl.Judge(source, sevens(3), plenty())
		if len(first) != 3 || stretchOf(first).meets(stretchOf(second)) {
			t.Errorf("%q: %d verdicts, or two lists share memory", source, len(first))
		}
	}
}

func TestReportsAreNewMemory(t *testing.T) {
	id := strings.Clone("ann7")
	vs := append(make([]impl.Verdict, 0, 9), impl.Verdict{Kind: 1}, impl.Verdict{Kind: 3, Code: 5})
	before := slices.Clone(vs[:cap(vs)])
	text, ok := impl.Report(id, vs)
	if !ok || stretchOfText(text).meets(stretchOfText(id)) || !slices.Equal(before, vs[:cap(vs)]) {
		t.Errorf("Report: %v, or it wrote into an argument or shares memory with it", ok)
	}
	back, list, ok := impl.ReadReport(text)
	again, other, too := impl.ReadReport(text)
	if !ok || !too || back != again || stretchOfText(back).meets(stretchOfText(text)) {
		t.Errorf("ReadReport: %v, or the id shares memory with the text", ok)
	}
	if stretchOf(list).meets(stretchOf(other)) || stretchOf(list).meets(stretchOf(vs)) {
		t.Errorf("ReadReport: two lists of verdicts share memory")
	}
}

func TestLogEntriesChangeNothing(t *testing.T) {
	id := strings.Clone("abcdefghij0123456789")
	values := []impl.Array{roomy(vectorOf(1, 2, 3)), roomy(scalarOf(7)), roomy(vectorOf())}
	before := everything(values...)
	outcomes := make([]impl.Outcome, 0, 9)
	for _, value := range values {
		outcomes = append(outcomes, impl.Outcome{Kind: impl.DidValue, Value: value, Fuel: 1, Cells: 2})
	}
	first, _ := impl.LogEntry(id, outcomes)
	second, ok := impl.LogEntry(id, outcomes)
	if !ok || first != second || !slices.Equal(before, everything(values...)) {
		t.Errorf("%q and %q, or an argument was written into", first, second)
	}
	if stretchOfText(first).meets(stretchOfText(id)) || outcomesTold(outcomes[:cap(outcomes)][3:], 0) != times(6, "nothing", "; ") {
		t.Errorf("%q shares memory with the id, or an argument was written into", first)
	}
}
