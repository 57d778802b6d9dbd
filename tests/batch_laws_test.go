package tests

import (
	"cmp"
	"fmt"
	"runtime"
	"slices"
	"strings"
	"sync"
	"testing"

	"loop.example/s02135/impl"
)

// batch is what Batch is given, its tests not yet a text.
type batch struct {
	students []impl.Student
	tests    []impl.Test
	l        impl.Limits
}

// batch has a code of 0 and, at times, sources that Parse refuses.
func (r *player) batch(most int) batch {
	g := r.grading()
	b := batch{tests: g.tests, l: g.l}
	for range r.throw(most + 1) {
		b.students = append(b.students, impl.Student{Id: r.freshId(b.students), Source: r.source()})
	}
	if len(b.students) > 0 {
		b.students[r.throw(len(b.students))].Source = g.source
	}
	return b
}

func (r *player) freshId(students []impl.Student) string {
	for {
		id := idByChance(&r.dice)
		if !slices.ContainsFunc(students, func(s impl.Student) bool { return s.Id == id }) {
			return id
		}
	}
}

func (b batch) text() string {
	var text strings.Builder
	for _, test := range b.tests {
		in, _ := impl.ArrayText(test.In)
		want, _ := impl.ArrayText(test.Want)
		text.WriteString(in + " => " + want + "\n")
	}
	return text.String()
}

func (b batch) acts(t *testing.T) []impl.Act {
	t.Helper()
	return batchOf(t, b.students, b.text(), b.l)
}

// report is that of Judge.
func (b batch) report(t *testing.T, s impl.Student) string {
	t.Helper()
	vs, ok := impl.Judge(s.Source, b.tests, b.l)
	text, right := impl.Report(s.Id, vs)
	if !ok || !right {
		t.Fatalf("%q has no report", s.Source)
	}
	return text
}

func (b batch) log(t *testing.T) string {
	t.Helper()
	var log strings.Builder
	for _, s := range b.students {
		if _, code, _ := impl.Parse(s.Source); code != 0 {
			fmt.Fprintf(&log, "%s not parsed %d\n", s.Id, code)
			continue
		}
		outcomes, code := impl.Outcomes(s.Source, b.tests, b.l)
		entry, ok := impl.LogEntry(s.Id, outcomes)
		if code != 0 || !ok {
			t.Fatalf("%q has no entry", s.Source)
		}
		log.WriteString(entry)
	}
	return log.String()
}

// disk is what the document asks a batch to leave behind.
func (b batch) disk(t *testing.T) impl.Disk {
	t.Helper()
	files := []impl.File{{Name: "staff_log.txt", Data: b.log(t)}}
	for _, s := range b.students {
		files = append(files, impl.File{Name: s.Id + ".txt", Data: b.report(t, s)})
	}
	slices.SortFunc(files, func(f, g impl.File) int { return cmp.Compare(f.Name, g.Name) })
	return impl.Disk{Files: files}
}

func modelWriting(name, text string) []impl.Act {
	acts := []impl.Act{makeOf(name + ".tmp")}
	for at := 0; at < len(text); at += 64 {
		acts = append(acts, addTo(name+".tmp", text[at:min(at+64, len(text))]))
	}
	return append(acts, renameOf(name+".tmp", name+".txt"))
}

// Promise 13: all acts are done, and leave the reports of Judge and the log.
func TestBatchesByChance(t *testing.T) {
	r := &player{dice: dice{111}, rolls: true}
	refused, students := 0, 0
	for range 400 {
		b := r.batch(impl.MaxStudents)
		var want []impl.Act
		for _, s := range b.students {
			want = append(want, modelWriting(s.Id, b.report(t, s))...)
		}
		want = append(want, modelWriting("staff_log", b.log(t))...)
		acts := b.acts(t)
		if !slices.Equal(acts, want) {
			t.Fatalf("%v: %v, want %v", b.students, acts, want)
		}
		if d := played(t, acts); !slices.Equal(d.Files, b.disk(t).Files) {
			t.Fatalf("%v: %q", b.students, diskTold(d))
		}
		students += len(b.students)
		refused += strings.Count(b.log(t), " not parsed ")
	}
	if refused < 50 || students < 1000 {
		t.Errorf("%d students, %d sources that Parse refuses", students, refused)
	}
}

// checkCrash asks for what promise 14 says of a disk behind a crash and Recover.
func checkCrash(t *testing.T, crashed, whole impl.Disk) impl.Disk {
	t.Helper()
	d, ok := impl.Recover(crashed)
	if !ok || !impl.DiskOk(d) {
		t.Fatalf("%q is not recovered", diskTold(crashed))
	}
	for _, f := range d.Files {
		if data, there := dataOf(whole, f.Name); !there || data != f.Data {
			t.Fatalf("behind the crash there is %q with %q", f.Name, f.Data)
		}
	}
	return d
}

func checkRerun(t *testing.T, d impl.Disk, acts []impl.Act, whole impl.Disk) {
	t.Helper()
	end, n := impl.Play(d, acts, len(acts))
	if n != len(acts) || !slices.Equal(end.Files, whole.Files) {
		t.Fatalf("the rerun on %q left %q, %d of %d acts", diskTold(d), diskTold(end), n, len(acts))
	}
}

// renames are the files that are whole behind so many acts.
func renames(acts []impl.Act) int {
	n := 0
	for _, a := range acts {
		if a.Kind == impl.ActRename {
			n++
		}
	}
	return n
}

// Promise 14, for every number of acts.
func TestCrashesOfBatches(t *testing.T) {
	r := &player{dice: dice{112}, rolls: true}
	for range 60 {
		b := r.batch(impl.MaxStudents)
		acts, whole := b.acts(t), b.disk(t)
		for k := range len(acts) + 1 {
			crashed, n := impl.Play(impl.Disk{}, acts, k)
			d := checkCrash(t, crashed, whole)
			if n != k || len(d.Files) != renames(acts[:k]) {
				t.Fatalf("behind %d acts, %d of them done, there is %q", k, n, diskTold(d))
			}
			checkRerun(t, d, acts, whole)
			// A rerun without Recover ends the same as well.
			checkRerun(t, crashed, acts, whole)
		}
	}
}

// A rerun can crash too, and the one behind it.
func TestCrashesOfReruns(t *testing.T) {
	r := &player{dice: dice{113}, rolls: true}
	for range 6 {
		b := r.batch(3)
		acts, whole := b.acts(t), b.disk(t)
		for k := range len(acts) + 1 {
			crashed, _ := impl.Play(impl.Disk{}, acts, k)
			first := checkCrash(t, crashed, whole)
			for j := range len(acts) + 1 {
				again, n := impl.Play(first, acts, j)
				second := checkCrash(t, again, whole)
				if n != j || len(second.Files) != max(renames(acts[:k]), renames(acts[:j])) {
					t.Fatalf("behind %d and %d acts there is %q", k, j, diskTold(second))
				}
				checkRerun(t, second, acts, whole)
			}
		}
	}
	for range 20 {
		b := r.batch(impl.MaxStudents)
		acts, whole := b.acts(t), b.disk(t)
		d := impl.Disk{}
		for range 50 {
			crashed, _ := impl.Play(d, acts, r.throw(len(acts)+1))
			d = checkCrash(t, crashed, whole)
			checkRerun(t, d, acts, whole)
		}
	}
}

// reportOf is a student's report as a batch leaves it behind.
func (b batch) reportOf(t *testing.T, id string) string {
	t.Helper()
	data, there := dataOf(played(t, b.acts(t)), id+".txt")
	if !there {
		t.Fatalf("%q has no report", id)
	}
	return data
}

// among puts a student at some place among others.
func (r *player) among(s impl.Student, others []impl.Student) []impl.Student {
	return slices.Insert(slices.Clone(others), r.throw(len(others)+1), s)
}

// Promise 15: a report hangs on no other student.
func TestReportsDoNotHangOnOtherStudents(t *testing.T) {
	r := &player{dice: dice{114}, rolls: true}
	for range 40 {
		b := r.batch(impl.MaxStudents)
		for i, s := range b.students {
			want := b.reportOf(t, s.Id)
			others := slices.Delete(slices.Clone(b.students), i, i+1)
			less := slices.DeleteFunc(slices.Clone(others), func(impl.Student) bool { return r.throw(2) == 0 })
			turned := slices.Clone(others)
			slices.Reverse(turned)
			changed := slices.Clone(others)
			for j := range changed {
				changed[j].Source = r.source()
			}
			strange := []impl.Student{}
			for range r.throw(impl.MaxStudents) {
				strange = append(strange, impl.Student{Id: r.freshId(append(strange, s)), Source: r.source()})
			}
			for _, list := range [][]impl.Student{nil, others, less, turned, changed, strange} {
				other := batch{r.among(s, list), b.tests, b.l}
				if got := other.reportOf(t, s.Id); got != want {
					t.Errorf("%q among %v: %q, and %q at first", s.Source, list, got, want)
				}
			}
		}
	}
}

// Students with the same source have the same report but for the id.
func TestStudentsWithTheSameSource(t *testing.T) {
	r := &player{dice: dice{115}, rolls: true}
	for range 100 {
		b := r.batch(0)
		b.students = class(impl.MaxStudents, r.source())
		d := played(t, b.acts(t))
		for _, s := range b.students {
			data, _ := dataOf(d, s.Id+".txt")
			if want := strings.Replace(b.report(t, b.students[0]), "student s0\n", "student "+s.Id+"\n", 1); data != want {
				t.Errorf("%q: %q, want %q", s.Source, data, want)
			}
		}
	}
}

// One processor or many, alone or beside others: there is one answer.
func TestBatchesUnderEachSchedule(t *testing.T) {
	defer runtime.GOMAXPROCS(runtime.GOMAXPROCS(0))
	r := &player{dice: dice{116}, rolls: true}
	for range 20 {
		b := r.batch(impl.MaxStudents)
		want := b.acts(t)
		text := b.text()
		for _, processors := range []int{1, 2, 8} {
			runtime.GOMAXPROCS(processors)
			got := make([][]impl.Act, 4)
			var all sync.WaitGroup
			for i := range got {
				all.Add(1)
				go func() {
					defer all.Done()
					got[i], _, _ = impl.Batch(b.students, text, b.l)
				}()
			}
			all.Wait()
			for _, acts := range got {
				if !slices.Equal(acts, want) {
					t.Fatalf("%v has other acts on %d processors", b.students, processors)
				}
			}
		}
	}
}
