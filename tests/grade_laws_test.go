package tests

import (
	"runtime"
	"slices"
	"strings"
	"sync"
	"testing"

	"loop.example/s02135/impl"
)

// modelOutcomes runs the tests one behind the other by the second reading of
// chapter 4.
func modelOutcomes(p []impl.Stmt, tests []impl.Test, l impl.Limits) []impl.Outcome {
	list := make([]impl.Outcome, len(tests))
	for i, test := range tests {
		own := l
		own.Seed = modelSeed(l.Seed, i)
		list[i] = modelRun(p, test.In, own)
	}
	return list
}

func modelVerdict(o impl.Outcome, want impl.Array) impl.Verdict {
	switch {
	case o.Kind == impl.DidValue && same(o.Value, want):
		return impl.Verdict{Kind: 1}
	case o.Kind == impl.DidValue:
		return impl.Verdict{Kind: 2}
	case o.Kind == impl.DidError:
		return impl.Verdict{Kind: 3, Code: o.Code}
	case o.Kind == impl.DidFuel:
		return impl.Verdict{Kind: 4}
	}
	return impl.Verdict{Kind: 5}
}

// source is a text that runs, or at times one that Parse refuses.
func (r *player) source() string {
	text := r.text()
	switch r.throw(20) {
	case 0:
		at := r.throw(len(text) + 1)
		return text[:at] + oneOf(&r.dice, []string{"$", "(", ")", "w w", " + ", "}"}) + text[at:]
	case 1:
		return text + ";" + inBrackets(impl.MaxNest+1, "w")
	}
	return text
}

// tests have for Want what the program gives, or another array.
func (r *player) tests(source string, l impl.Limits) []impl.Test {
	list := make([]impl.Test, r.throw(impl.MaxTests+1))
	for i := range list {
		list[i] = impl.Test{In: r.array(), Want: r.array()}
	}
	for i, o := range modelOutcomes(readable(source), list, l) {
		if o.Kind == impl.DidValue && r.throw(2) == 0 {
			list[i].Want = o.Value
		}
	}
	return list
}

// readable is nothing for a source that Parse refuses.
func readable(source string) []impl.Stmt {
	p, _, _ := impl.Parse(source)
	return p
}

// grading is a source with tests and limits, all by chance.
type grading struct {
	source string
	tests  []impl.Test
	l      impl.Limits
}

func (r *player) grading() grading {
	source, l := r.source(), r.limits()
	return grading{source, r.tests(source, l), l}
}

func (g grading) judged() string { return verdictsTold(impl.Judge(g.source, g.tests, g.l)) }

func (g grading) ran() string { return outcomesTold(impl.Outcomes(g.source, g.tests, g.l)) }

// Promise 9: Judge's verdicts are those of Outcomes, test by test.
func TestGradingByChance(t *testing.T) {
	r := &player{dice: dice{61}, rolls: true}
	seen := map[impl.Verdict]int{}
	for range 3000 {
		g := r.grading()
		p, code, _ := impl.Parse(g.source)
		want := make([]impl.Verdict, len(g.tests))
		if code != 0 {
			checkOutcomes(t, g.source, g.tests, g.l, outcomesTold(nil, 10+code))
			for i := range want {
				want[i] = impl.Verdict{Kind: 3, Code: 20 + code}
			}
		} else {
			outcomes := modelOutcomes(p, g.tests, g.l)
			checkOutcomes(t, g.source, g.tests, g.l, outcomesTold(outcomes, 0))
			for i := range want {
				want[i] = modelVerdict(outcomes[i], g.tests[i].Want)
			}
		}
		checkJudge(t, g.source, g.tests, g.l, verdictsTold(want, true))
		for _, v := range want {
			seen[v]++
		}
	}
	// Gradings by chance are of use only as long as there are all verdicts.
	for _, v := range []impl.Verdict{{Kind: 1}, {Kind: 2}, {Kind: 4}, {Kind: 5}, {Kind: 3, Code: 22}, {Kind: 3, Code: 23}, {Kind: 3, Code: 24}, {Kind: 3, Code: impl.NoRight}, {Kind: 3, Code: impl.TooDeep}, {Kind: 3, Code: impl.NoValue}, {Kind: 3, Code: impl.Domain}} {
		if seen[v] < 30 {
			t.Errorf("%d verdicts %v", seen[v], v)
		}
	}
}

// Promise 9: a test's verdict does not hang on the tests behind it.
func TestTestsBehindMakeNoDifference(t *testing.T) {
	r := &player{dice: dice{62}, rolls: true}
	for range 400 {
		g := r.grading()
		all, ok := impl.Judge(g.source, g.tests, g.l)
		if !ok || len(all) != len(g.tests) {
			t.Fatalf("%q: %v and %d verdicts", g.source, ok, len(all))
		}
		for n := range g.tests {
			front := slices.Clone(g.tests[:n+1])
			checkJudge(t, g.source, front, g.l, verdictsTold(all[:n+1], true))
			others := append(front, g.tests[:r.throw(impl.MaxTests-n)%(len(g.tests)+1)]...)
			got, ok := impl.Judge(g.source, others, g.l)
			if !ok || len(got) != len(others) || !slices.Equal(got[:n+1], all[:n+1]) {
				t.Errorf("%q: %s with other tests behind, %s at first", g.source, verdictsTold(got, ok), verdictsTold(all, true))
			}
		}
	}
}

// What stands in Want makes no difference to the outcomes.
func TestOutcomesDoNotHangOnWant(t *testing.T) {
	r := &player{dice: dice{63}, rolls: true}
	for range 400 {
		g := r.grading()
		before := g.ran()
		for i := range g.tests {
			g.tests[i].Want = r.array()
		}
		if after := g.ran(); after != before {
			t.Errorf("%q: %s, and then %s", g.source, before, after)
		}
	}
}

// One processor or many, once or again: there is one answer.
func TestGradingUnderEachSchedule(t *testing.T) {
	defer runtime.GOMAXPROCS(runtime.GOMAXPROCS(0))
	r := &player{dice: dice{64}, rolls: true}
	for range 150 {
		g := r.grading()
		outcomes, verdicts := g.ran(), g.judged()
		for _, processors := range []int{1, 2, 8} {
			runtime.GOMAXPROCS(processors)
			if g.ran() != outcomes || g.judged() != verdicts {
				t.Fatalf("%q is graded in another way on %d processors", g.source, processors)
			}
		}
	}
}

// All goroutines of a call have ended when it answers. A goroutine that is
// done can be counted for a moment longer, so a call that starts 20 is made
// many times over.
func TestGradingLeavesNoGoroutine(t *testing.T) {
	before := runtime.NumGoroutine()
	for range 200 {
		impl.Judge("+/ iota w", sevens(impl.MaxTests), plenty())
		impl.Outcomes("+/ iota w", sevens(impl.MaxTests), plenty())
	}
	for range 1000 {
		runtime.Gosched()
	}
	if after := runtime.NumGoroutine(); after > before+2*impl.MaxTests {
		t.Errorf("%d goroutines, and %d before", after, before)
	}
}

// Gradings beside each other share source and tests, which they only read.
func TestGradingsBesideEachOther(t *testing.T) {
	r := &player{dice: dice{65}, rolls: true}
	for range 60 {
		g := r.grading()
		want := g.judged() + g.ran()
		got := make([]string, 8)
		var all sync.WaitGroup
		for i := range got {
			all.Add(1)
			go func() {
				defer all.Done()
				got[i] = g.judged() + g.ran()
			}()
		}
		all.Wait()
		if strings.Join(got, "") != strings.Repeat(want, len(got)) {
			t.Errorf("%q: %s beside each other, %s alone", g.source, got, want)
		}
	}
}

// The longest runs there can be: each test has the whole budget for itself.
func TestEachTestHasTheWholeBudget(t *testing.T) {
	loop := "F := {w = 0 : 0; self w - 1}; F 48; "
	source := strings.Repeat(loop, impl.MaxText/len(loop)) + "w"
	one := impl.Run(parsed(t, source, 0, 0), scalarOf(7), plenty())
	if one.Kind != impl.DidValue || one.Fuel < impl.MaxBudget/4 {
		t.Fatalf("%s", told(one))
	}
	checkOutcomes(t, source, sevens(impl.MaxTests), plenty(), times(impl.MaxTests, told(one), "; "))
	checkOutcomes(t, source, sevens(impl.MaxTests), within(one.Fuel, one.Cells), times(impl.MaxTests, told(one), "; "))
	checkJudge(t, source, sevens(impl.MaxTests), within(one.Fuel-1, one.Cells), times(impl.MaxTests, "fuel", ", "))
	checkJudge(t, source, sevens(impl.MaxTests), within(one.Fuel, one.Cells-1), times(impl.MaxTests, "cells", ", "))
}
