package tests

import (
	"slices"
	"strconv"
	"strings"
	"testing"

	"loop.example/s02135/impl"
)

func idByChance(d *dice) string {
	const bytes = "abcxyzABCXYZ0123456789"
	id := make([]byte, 1+d.throw(impl.MaxId))
	for i := range id {
		id[i] = bytes[d.throw(len(bytes))]
	}
	return string(id)
}

func verdictsByChance(d *dice) []impl.Verdict {
	vs := make([]impl.Verdict, d.throw(impl.MaxTests+1))
	for i := range vs {
		vs[i].Kind = 1 + d.throw(5)
		if vs[i].Kind == impl.Error {
			vs[i].Code = 1 + d.throw(99)
		}
	}
	return vs
}

// Promise 10: ReadReport of Report is what was reported.
func TestReportsByChance(t *testing.T) {
	d := &dice{71}
	for range 5000 {
		id, vs := idByChance(d), verdictsByChance(d)
		text, ok := impl.Report(id, vs)
		back, list, read := impl.ReadReport(text)
		if !ok || !read || back != id || !slices.Equal(list, vs) {
			t.Errorf("Report(%q, %v): %q, which reads as %q %v", id, vs, text, back, list)
		}
		checkReadReport(t, text)
		at, end := d.throw(len(text)), d.throw(len(text))
		checkReadReport(t, text[:min(at, end)]+text[max(at, end):])
		checkReadReport(t, text[:max(at, end)]+text[min(at, end):])
	}
}

// Promise 10: no two reports are the same text.
func TestReportsOfAllShortLists(t *testing.T) {
	verdicts := []impl.Verdict{{Kind: 1}, {Kind: 2}, {Kind: 3, Code: 1}, {Kind: 3, Code: 11}, {Kind: 4}, {Kind: 5}}
	seen := map[string]bool{}
	var grow func(vs []impl.Verdict)
	grow = func(vs []impl.Verdict) {
		text, ok := impl.Report("x1", vs)
		if !ok || seen[text] || !checkReadReport(t, text) {
			t.Errorf("Report of %v: %q %v", vs, text, ok)
		}
		seen[text] = true
		if len(vs) < 4 {
			for _, v := range verdicts {
				grow(append(slices.Clone(vs), v))
			}
		}
	}
	grow(nil)
}

// Promise 10: two students' reports with the same verdicts are the same but
// for the id, which stands in the first line alone.
func TestReportsOfTwoStudents(t *testing.T) {
	d := &dice{72}
	for range 2000 {
		one, other, vs := idByChance(d), idByChance(d), verdictsByChance(d)
		first, ok := impl.Report(one, vs)
		second, too := impl.Report(other, vs)
		rest, cut := strings.CutPrefix(first, "student "+one+"\n")
		if !ok || !too || !cut || second != "student "+other+"\n"+rest {
			t.Errorf("%q and %q", first, second)
		}
	}
}

// Promise 11: lists of tests with the same verdicts have the same report,
// whatever stands in the tests, the source and the limits.
func TestReportsTellVerdictsAlone(t *testing.T) {
	r := &player{dice: dice{73}, rolls: true}
	seen := map[string]string{}
	again := 0
	for range 3000 {
		g := r.grading()
		g.tests = g.tests[:min(len(g.tests), r.throw(4))]
		vs, ok := impl.Judge(g.source, g.tests, g.l)
		text, right := impl.Report("ann", vs)
		if !ok || !right {
			t.Fatalf("%q: %s has no report", g.source, verdictsTold(vs, ok))
		}
		key := verdictsTold(vs, ok)
		if before, there := seen[key]; there {
			again++
			if before != text {
				t.Errorf("%s: %q and %q", key, before, text)
			}
		}
		seen[key] = text
	}
	if again < 1000 {
		t.Errorf("%d lists of verdicts came again", again)
	}
}

// Promise 11: two lists of tests that have nothing in common but their verdicts.
func TestReportsOfTwoListsOfTests(t *testing.T) {
	source := "F := {w > 999 : 1 % 0; w = 555 : self w; w = 666 : iota 900; w}; F w"
	one := asked(t, ":31337 => :271828", ":555 => :31337", ":4242 => :4242", ":77 => :77", ":666 => :1", ":88 => :99", ":0 => :0")
	other := asked(t, ":1000 => 0:", ":555 => 2 2:1 2 3 4", ":2718 => :0", ":-5 => :-5", ":666 => 3:8 8 8", ":-8 => 0 0:", ":900 => :900")
	want := "student ann\ntest 1 error 1\ntest 2 error 13\ntest 3 error 1\ntest 4 pass\ntest 5 cells\ntest 6 fail\ntest 7 pass\npassed 2 of 7\n"
	for _, l := range []impl.Limits{within(impl.MaxBudget, 800), {Fuel: 1000, Cells: 500, Roll: false, Seed: 99}} {
		for _, tests := range [][]impl.Test{one, other} {
			vs, ok := impl.Judge(source, tests, l)
			if text, right := impl.Report("ann", vs); !ok || !right || text != want {
				t.Errorf("%q", text)
			}
		}
	}
}

// A source that does not parse has a report too.
func TestReportsOfSourcesThatDoNotParse(t *testing.T) {
	for code, sources := range unread() {
		for _, source := range sources {
			vs, _ := impl.Judge(source, sevens(2), plenty())
			word := "error " + strconv.Itoa(20+code)
			checkReport(t, "x", vs, "student x\ntest 1 "+word+"\ntest 2 "+word+"\npassed 0 of 2\n")
		}
	}
}
