package tests

import (
	"fmt"
	"slices"
	"strconv"
	"strings"
	"testing"

	"loop.example/s02135/impl"
)

// class has so many students with the same source.
func class(n int, source string) []impl.Student {
	list := make([]impl.Student, n)
	for i := range list {
		list[i] = impl.Student{Id: "s" + strconv.Itoa(i), Source: source}
	}
	return list
}

// withIds has students whose source is of no interest.
func withIds(ids ...string) []impl.Student {
	list := make([]impl.Student, len(ids))
	for i, id := range ids {
		list[i] = impl.Student{Id: id, Source: "w"}
	}
	return list
}

func batchOf(t *testing.T, students []impl.Student, tests string, l impl.Limits) []impl.Act {
	t.Helper()
	acts, code, at := impl.Batch(students, tests, l)
	if code != 0 || at != 0 {
		t.Fatalf("Batch of %d students: code %d at %d", len(students), code, at)
	}
	return acts
}

func checkNoBatch(t *testing.T, students []impl.Student, tests string, l impl.Limits, wantCode, wantAt int) {
	t.Helper()
	acts, code, at := impl.Batch(students, tests, l)
	if code != wantCode || at != wantAt || len(acts) != 0 {
		t.Errorf("Batch of %d students with tests %q: %d acts, code %d at %d, want %d at %d", len(students), short(tests), len(acts), code, at, wantCode, wantAt)
	}
}

// played is the disk that a batch leaves behind, all its acts being done.
func played(t *testing.T, acts []impl.Act) impl.Disk {
	t.Helper()
	d, n := impl.Play(impl.Disk{}, acts, len(acts))
	if n != len(acts) {
		t.Errorf("%d of %d acts are done", n, len(acts))
	}
	return d
}

func dataOf(d impl.Disk, name string) (string, bool) {
	for _, f := range d.Files {
		if f.Name == name {
			return f.Data, true
		}
	}
	return "", false
}

func TestTheActsOfABatch(t *testing.T) {
	students := []impl.Student{{Id: "bob", Source: "+/ w"}, {Id: "ann", Source: "w +"}, {Id: "Zed", Source: "F := {(count w) > 1 : self 1 drop w; iota w}; F w"}}
	acts := batchOf(t, students, "2:1 2 => :3\n\n1:5 => 1:7\n:5 => 5:0 1 2 3 4\n:90 => :1\n", within(9, 60))
	ann := "student ann\ntest 1 error 23\ntest 2 error 23\ntest 3 error 23\ntest 4 error 23\npassed 0 of 4\n"
	log := "bob 1 1 0 2 1 1\nbob 2 1 0 2 1 1\nbob 3 1 0 2 1 1\nbob 4 1 0 2 1 1\nann not parsed 3\nZed 1 3 0 9 5 -\nZed 2 2 2 8 3 -\nZed 3 1 0 8 8 5\nZed 4 4 0 8 3 -\n"
	want := []impl.Act{
		makeOf("bob.tmp"),
		addTo("bob.tmp", "student bob\ntest 1 pass\ntest 2 fail\ntest 3 fail\ntest 4 fail\npass"),
		addTo("bob.tmp", "ed 1 of 4\n"),
		renameOf("bob.tmp", "bob.txt"),
		makeOf("ann.tmp"),
		addTo("ann.tmp", ann[:64]),
		addTo("ann.tmp", ann[64:]),
		renameOf("ann.tmp", "ann.txt"),
		makeOf("Zed.tmp"),
		addTo("Zed.tmp", "student Zed\ntest 1 fuel\ntest 2 error 2\ntest 3 pass\ntest 4 cells\n"),
		addTo("Zed.tmp", "passed 1 of 4\n"),
		renameOf("Zed.tmp", "Zed.txt"),
		makeOf("staff_log.tmp"),
		addTo("staff_log.tmp", log[:64]),
		addTo("staff_log.tmp", log[64:128]),
		addTo("staff_log.tmp", log[128:]),
		renameOf("staff_log.tmp", "staff_log.txt"),
	}
	if !slices.Equal(acts, want) {
		t.Errorf("%v, want %v", acts, want)
	}
	files := diskOf("Zed.txt=student Zed\ntest 1 fuel\ntest 2 error 2\ntest 3 pass\ntest 4 cells\npassed 1 of 4\n|ann.txt=" + ann + "|bob.txt=student bob\ntest 1 pass\ntest 2 fail\ntest 3 fail\ntest 4 fail\npassed 1 of 4\n|staff_log.txt=" + log)
	if d := played(t, acts); !slices.Equal(d.Files, files.Files) {
		t.Errorf("%q", diskTold(d))
	}
}

func TestBatchesWithoutStudentsOrTests(t *testing.T) {
	for _, tests := range []string{"", "\n\n", ":1 => :2", strings.Repeat(":1 => :1\n", impl.MaxTests)} {
		for _, nobody := range [][]impl.Student{nil, {}} {
			acts := batchOf(t, nobody, tests, plenty())
			if !slices.Equal(acts, []impl.Act{makeOf("staff_log.tmp"), renameOf("staff_log.tmp", "staff_log.txt")}) {
				t.Errorf("%v", acts)
			}
		}
	}
	students := []impl.Student{{Id: "a", Source: "w"}, {Id: "b", Source: "$"}, {Id: "c"}, {Id: "d", Source: "("}, {Id: "e", Source: "1 % 0"}}
	for _, tests := range []string{"", "\n", "\n\n\n"} {
		want := "a.txt=student a\npassed 0 of 0\n|b.txt=student b\npassed 0 of 0\n|c.txt=student c\npassed 0 of 0\n|d.txt=student d\npassed 0 of 0\n|e.txt=student e\npassed 0 of 0\n|staff_log.txt=b not parsed 2\nd not parsed 3\n"
		if got := diskTold(played(t, batchOf(t, students, tests, plenty()))); got != want {
			t.Errorf("%q", got)
		}
	}
}

func TestBatchesOfSourcesThatDoNotParse(t *testing.T) {
	for code, sources := range unread() {
		for _, source := range sources {
			d := played(t, batchOf(t, []impl.Student{{Id: "x", Source: "w"}, {Id: "y", Source: source}, {Id: "z", Source: "w"}}, ":7 => :7\n:8 => :8\n", plenty()))
			word := "error " + strconv.Itoa(20+code)
			want := "x.txt=student x\ntest 1 pass\ntest 2 pass\npassed 2 of 2\n|y.txt=student y\ntest 1 " + word + "\ntest 2 " + word + "\npassed 0 of 2\n|z.txt=student z\ntest 1 pass\ntest 2 pass\npassed 2 of 2\n|staff_log.txt=x 1 1 0 1 0 1\nx 2 1 0 1 0 1\ny not parsed " + strconv.Itoa(code) + "\nz 1 1 0 1 0 1\nz 2 1 0 1 0 1\n"
			if got := sorted(diskTold(d)); got != sorted(want) {
				t.Errorf("%q: %q", short(source), got)
			}
		}
	}
}

// sorted has the files of a disk's text in the order of their bytes.
func sorted(text string) string {
	files := strings.Split(text, "|")
	slices.Sort(files)
	return strings.Join(files, "|")
}

// As many students as may be, with ids and reports as long as may be.
func TestTheGreatestBatch(t *testing.T) {
	students := class(impl.MaxStudents, "1 % 0")
	for i := range students {
		students[i].Id = fmt.Sprintf("Student9012345678%03d", i)
		if i%3 == 1 {
			students[i].Source = "w +"
		}
	}
	acts := batchOf(t, students, strings.Repeat(":1 => :1\n", impl.MaxTests), plenty())
	d := played(t, acts)
	if len(acts) > impl.MaxActs || len(d.Files) != impl.MaxStudents+1 || !impl.DiskOk(d) {
		t.Errorf("%d acts, %d files", len(acts), len(d.Files))
	}
	var log strings.Builder
	for i, s := range students {
		word := "error 1"
		if i%3 == 1 {
			word = "error 23"
			log.WriteString(s.Id + " not parsed 3\n")
		}
		report := "student " + s.Id + "\n"
		for n := 1; n <= impl.MaxTests; n++ {
			report += fmt.Sprintf("test %d %s\n", n, word)
			if i%3 != 1 {
				fmt.Fprintf(&log, "%s %d 2 1 3 2 -\n", s.Id, n)
			}
		}
		if data, _ := dataOf(d, s.Id+".txt"); data != report+"passed 0 of 20\n" {
			t.Errorf("%s: %q", s.Id, data)
		}
	}
	if data, _ := dataOf(d, "staff_log.txt"); data != log.String() {
		t.Errorf("%q", data)
	}
}

// checkPieces looks at the acts of one file: a make, pieces, a rename.
func checkPieces(t *testing.T, acts []impl.Act, name, text string) {
	t.Helper()
	last := len(acts) - 1
	if len(acts) != 2+(len(text)+impl.Piece-1)/impl.Piece || acts[0] != makeOf(name+".tmp") || acts[last] != renameOf(name+".tmp", name+".txt") {
		t.Fatalf("%s, %d bytes: %v", name, len(text), acts)
	}
	joined := ""
	for i, a := range acts[1:last] {
		joined += a.Data
		if a != addTo(name+".tmp", a.Data) || len(a.Data) < 1 || len(a.Data) > impl.Piece || i < last-2 && len(a.Data) != impl.Piece {
			t.Errorf("%s, %d bytes, piece %d: %v", name, len(text), i, a)
		}
	}
	if joined != text {
		t.Errorf("%s: %q, want %q", name, joined, text)
	}
}

// Ids and tests of all numbers give reports and logs of many lengths.
func TestPieces(t *testing.T) {
	reports, logs := map[int]bool{}, map[int]bool{}
	for n := range impl.MaxTests + 1 {
		for length := 1; length <= impl.MaxId; length++ {
			id := strings.Repeat("x", length)
			acts := batchOf(t, []impl.Student{{Id: id, Source: "w"}}, strings.Repeat(":1 => :1\n", n), plenty())
			report, _ := impl.Report(id, passes(n))
			log := ""
			for i := 1; i <= n; i++ {
				log += fmt.Sprintf("%s %d 1 0 1 0 1\n", id, i)
			}
			own := slices.Index(acts, makeOf("staff_log.tmp"))
			if own < 0 {
				t.Fatalf("%v", acts)
			}
			checkPieces(t, acts[:own], id, report)
			checkPieces(t, acts[own:], "staff_log", log)
			reports[len(report)], logs[len(log)] = true, true
		}
	}
	// The lengths at which the number of pieces changes.
	for _, length := range []int{63, 64, 65, 127, 128, 129, 191, 192, 193, 255, 256, 257} {
		if !reports[length] {
			t.Errorf("no report has %d bytes", length)
		}
	}
	for _, length := range []int{0, 63, 64, 191, 192, 255, 256, 257} {
		if !logs[length] {
			t.Errorf("no log has %d bytes", length)
		}
	}
}

func TestBatchesThatAreRefused(t *testing.T) {
	const line = ":1 => :1\n"
	for _, l := range []impl.Limits{{}, {Fuel: -1, Seed: 1}, {Fuel: impl.MaxBudget + 1, Seed: 1}, {Cells: -1, Seed: 1}, {Cells: impl.MaxBudget + 1, Seed: 1}, {Seed: 0}, {Seed: -1}, {Seed: 2147483647}} {
		for _, n := range []int{0, 1, impl.MaxStudents, impl.MaxStudents + 1} {
			checkNoBatch(t, class(n, "w"), "", l, 1, 0)
			checkNoBatch(t, class(n, "w"), line, l, 1, 0)
		}
	}
	for _, c := range []struct {
		tests string
		at    int
	}{
		{"x", 1}, {"\nx", 2}, {line + "\n\nx\n" + line, 4}, {":1 => :1 ", 1}, {":1=>:1", 1}, {line + ":1 =>", 2},
		{strings.Repeat(line, impl.MaxTests+1), 21}, {"\n" + strings.Repeat(line, impl.MaxTests) + "\n" + line, 23}, {strings.Repeat(line, impl.MaxTests) + "x", 21},
		{strings.Repeat("\n", impl.MaxTestText+1), 0}, {strings.Repeat("x", impl.MaxTestText+1), 0},
	} {
		for _, n := range []int{0, 1, impl.MaxStudents, impl.MaxStudents + 1} {
			checkNoBatch(t, class(n, "w"), c.tests, plenty(), 2, c.at)
		}
	}
	for _, n := range []int{impl.MaxStudents + 1, impl.MaxStudents + 2, 1000, 100000} {
		checkNoBatch(t, class(n, "w"), line, plenty(), 3, impl.MaxStudents)
		checkNoBatch(t, make([]impl.Student, n), "", plenty(), 3, impl.MaxStudents)
	}
	// As many as may be of each have no code.
	batchOf(t, class(impl.MaxStudents, "w"), strings.Repeat(line, impl.MaxTests), plenty())
	batchOf(t, class(1, "w"), strings.Repeat("\n", impl.MaxTestText), plenty())
	batchOf(t, class(1, "w"), line, impl.Limits{Seed: 1})
	batchOf(t, class(1, "w"), line, impl.Limits{Fuel: impl.MaxBudget, Cells: impl.MaxBudget, Seed: 2147483646})
}

func TestIdsOfBatches(t *testing.T) {
	const most = "abcdefghij0123456789"
	for _, id := range []string{"", " ", "a b", "a\n", "a_", "staff_log", "a.b", "a.tmp", "a-b", "\u00e9", "a\x00", "\xff", most + "a", strings.Repeat("a", 1000000)} {
		for at := range impl.MaxStudents {
			students := class(impl.MaxStudents, "w")
			students[at].Id = id
			checkNoBatch(t, students, ":1 => :1", plenty(), 4, at)
			// The first such one, and ahead of ids that are there again.
			students[impl.MaxStudents-1].Id = id
			checkNoBatch(t, students, "", plenty(), 4, at)
		}
		checkNoBatch(t, withIds(id), "", plenty(), 4, 0)
		checkNoBatch(t, withIds("a", "a", "b", "a", id), "", plenty(), 4, 4)
	}
	for _, c := range []struct {
		ids string
		at  int
	}{{"a a", 1}, {"a a a", 1}, {"a b a", 2}, {"a b b a", 2}, {"a b c a b c", 3}, {"a A a", 2}, {"A A", 1}, {"a A A", 2}, {"7 7", 1}, {"1 01 001 1", 3}, {"a b c d e f g h i i", 9}, {"a b c d e f g h i a", 9}, {most + " a " + most, 2}} {
		checkNoBatch(t, withIds(strings.Fields(c.ids)...), ":1 => :1", plenty(), 5, c.at)
	}
	for _, ids := range []string{"a A", "1 01 001", "a aa aaa", "staff log stafflog", "tmp txt", most, "a b c d e f g h i j"} {
		if d := played(t, batchOf(t, withIds(strings.Fields(ids)...), "", plenty())); len(d.Files) != 1+len(strings.Fields(ids)) {
			t.Errorf("%q", diskTold(d))
		}
	}
}

// Promise 13: of any faults together the first in the document's list.
func TestTheFirstCodeOfABatch(t *testing.T) {
	for faults := range 32 {
		has := func(code int) bool { return faults>>(code-1)&1 == 1 }
		students, tests, l := withIds("a", "b", "c", "d"), ":1 => :1\n", plenty()
		want, at := 0, 0
		if has(5) {
			students[2].Id = "b"
			want, at = 5, 2
		}
		if has(4) {
			students[3].Id = "d."
			want, at = 4, 3
		}
		if has(3) {
			students = append(students, class(impl.MaxStudents, "w")...)
			want, at = 3, impl.MaxStudents
		}
		if has(2) {
			tests += "\nx"
			want, at = 2, 3
		}
		if has(1) {
			l.Seed = 0
			want, at = 1, 0
		}
		if want == 0 {
			batchOf(t, students, tests, l)
		} else {
			checkNoBatch(t, students, tests, l, want, at)
		}
	}
}
