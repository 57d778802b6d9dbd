package tests

import (
	"fmt"
	"slices"
	"strings"
	"testing"

	"loop.example/s02135/impl"
)

func checkLog(t *testing.T, id string, os []impl.Outcome, want string) {
	t.Helper()
	if text, ok := impl.LogEntry(id, os); text != want || !ok {
		t.Errorf("LogEntry(%q, %v): %q %v, want %q", id, os, short(text), ok, short(want))
	}
}

func checkNoLog(t *testing.T, id string, os []impl.Outcome) {
	t.Helper()
	if text, ok := impl.LogEntry(id, os); text != "" || ok {
		t.Errorf("LogEntry(%q, %v): %q %v", short(id), os, short(text), ok)
	}
}

func TestLogEntries(t *testing.T) {
	const most = impl.MaxBudget
	checkLog(t, "bob", nil, "")
	checkLog(t, "abcdefghij0123456789", []impl.Outcome{}, "")
	for _, c := range []struct {
		o    impl.Outcome
		want string
	}{
		{impl.Outcome{Kind: 1, Value: scalarOf(5)}, "1 0 0 0 1"},
		{impl.Outcome{Kind: 1, Value: vectorOf(), Fuel: 1, Cells: 2}, "1 0 1 2 0"},
		{impl.Outcome{Kind: 1, Value: vectorOf(-8, 7), Fuel: 3, Cells: 4}, "1 0 3 4 2"},
		{impl.Outcome{Kind: 1, Value: counted(0, 0, 2, 0, 3), Fuel: most, Cells: most}, "1 0 100000 100000 0"},
		{impl.Outcome{Kind: 1, Value: counted(0, 1, 10, 10, 10), Fuel: 10, Cells: 1000}, "1 0 10 1000 1000"},
		{impl.Outcome{Kind: 2, Code: 13, Fuel: 1}, "2 13 1 0 -"},
		{impl.Outcome{Kind: 2, Code: 1, Fuel: 2, Cells: 7}, "2 1 2 7 -"},
		{impl.Outcome{Kind: 3, Fuel: 5, Cells: 6}, "3 0 5 6 -"},
		{impl.Outcome{Kind: 4, Fuel: 5, Cells: 6}, "4 0 5 6 -"},
		// What the document does not ask of an outcome.
		{impl.Outcome{Kind: 2}, "2 0 0 0 -"},
		{impl.Outcome{Kind: 1, Code: 3, Value: scalarOf(5)}, "1 3 0 0 1"},
		{impl.Outcome{Kind: 3, Code: most, Fuel: most, Cells: most}, "3 100000 100000 100000 -"},
		{impl.Outcome{Kind: 4, Code: 1}, "4 1 0 0 -"},
		{impl.Outcome{Kind: 2, Code: 5, Value: scalarOf(5)}, "2 5 0 0 -"},
		{impl.Outcome{Kind: 3, Value: made([]int{2}, 1)}, "3 0 0 0 -"},
		{impl.Outcome{Kind: 4, Value: made([]int{-1}, 1, 2, 3)}, "4 0 0 0 -"},
	} {
		checkLog(t, "bob", []impl.Outcome{c.o}, "bob 1 "+c.want+"\n")
		checkLog(t, "b", []impl.Outcome{c.o, c.o}, "b 1 "+c.want+"\nb 2 "+c.want+"\n")
	}
}

func TestOutcomesThatAreNotRight(t *testing.T) {
	const most, great = impl.MaxBudget, 1 << 62
	wrong := []impl.Outcome{
		{}, {Kind: -1}, {Kind: 5}, {Kind: great}, {Kind: -great}, {Value: scalarOf(5)}, {Kind: 5, Value: scalarOf(5)},
		{Kind: 2, Code: -1}, {Kind: 2, Code: most + 1}, {Kind: 2, Code: great}, {Kind: 3, Code: -1}, {Kind: 4, Code: most + 1}, {Kind: 1, Code: -1, Value: scalarOf(5)},
		{Kind: 2, Fuel: -1}, {Kind: 2, Fuel: most + 1}, {Kind: 3, Fuel: -1}, {Kind: 3, Fuel: most + 1}, {Kind: 4, Fuel: great}, {Kind: 1, Fuel: -1, Value: scalarOf(5)}, {Kind: 1, Fuel: most + 1, Value: scalarOf(5)},
		{Kind: 2, Cells: -1}, {Kind: 2, Cells: most + 1}, {Kind: 3, Cells: -1}, {Kind: 4, Cells: most + 1}, {Kind: 4, Cells: -great}, {Kind: 1, Cells: -1, Value: scalarOf(5)}, {Kind: 1, Cells: most + 1, Value: scalarOf(5)},
	}
	for _, a := range badArrays() {
		wrong = append(wrong, impl.Outcome{Kind: 1, Value: a})
	}
	for _, o := range wrong {
		checkNoLog(t, "bob", []impl.Outcome{o})
		for _, at := range []int{0, 9, impl.MaxTests - 1} {
			list := slices.Repeat([]impl.Outcome{{Kind: 3}}, impl.MaxTests)
			list[at] = o
			checkNoLog(t, "bob", list)
		}
	}
}

func TestLogEntriesOfManyOutcomes(t *testing.T) {
	for n := range impl.MaxTests + 1 {
		var want strings.Builder
		for i := 1; i <= n; i++ {
			fmt.Fprintf(&want, "x %d 3 0 0 0 -\n", i)
		}
		checkLog(t, "x", slices.Repeat([]impl.Outcome{{Kind: 3}}, n), want.String())
	}
	for _, n := range []int{impl.MaxTests + 1, impl.MaxTests + 2, 1000} {
		checkNoLog(t, "x", slices.Repeat([]impl.Outcome{{Kind: 3}}, n))
	}
}

// Each outcome of Outcomes is right, so each grading has an entry.
func TestLogEntriesOfOutcomes(t *testing.T) {
	r := &player{dice: dice{81}, rolls: true}
	for range 1000 {
		g := r.grading()
		outcomes, _ := impl.Outcomes(g.source, g.tests, g.l)
		var want strings.Builder
		for i, o := range outcomes {
			size := "-"
			if o.Kind == 1 {
				size = fmt.Sprint(len(o.Value.Data))
			}
			fmt.Fprintf(&want, "ann %d %d %d %d %d %s\n", i+1, o.Kind, o.Code, o.Fuel, o.Cells, size)
		}
		checkLog(t, "ann", outcomes, want.String())
	}
}
