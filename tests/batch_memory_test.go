package tests

import (
	"slices"
	"strings"
	"testing"

	"loop.example/s02135/impl"
)

// roomyList is the same list with room behind it, filled, so that a function
// that appends to an argument is seen.
func roomyList[E any](list []E, fill E) []E {
	room := slices.Clone(list)
	for range 4 {
		room = append(room, fill)
	}
	return room[:len(list)]
}

func wholeList[E any](list []E) []E { return slices.Clone(list[:cap(list)]) }

// checkDiskMemory calls, looks whether the disk or the acts were written into,
// and writes over the answer.
func checkDiskMemory(t *testing.T, what string, d impl.Disk, acts []impl.Act, call func(d impl.Disk, acts []impl.Act) impl.Disk) {
	t.Helper()
	d.Files = roomyList(d.Files, impl.File{Name: "behind", Data: "x"})
	acts = roomyList(acts, makeOf("behind"))
	files, list := wholeList(d.Files), wholeList(acts)
	got := call(d, acts)
	if !slices.Equal(files, d.Files[:cap(d.Files)]) || !slices.Equal(list, acts[:cap(acts)]) {
		t.Errorf("%s wrote into an argument", what)
	}
	if stretchOf(got.Files).meets(stretchOf(d.Files)) {
		t.Errorf("%s: the answer shares memory with the disk", what)
	}
	before := slices.Clone(got.Files)
	for i := range d.Files {
		d.Files[i] = impl.File{Name: "spoiled"}
	}
	clear(acts)
	if !slices.Equal(before, got.Files) {
		t.Errorf("%s: the answer changed with an argument", what)
	}
	copy(d.Files, files)
	copy(acts, list)
	clear(got.Files)
	if again := call(d, acts); !slices.Equal(before, again.Files) {
		t.Errorf("%s: %q, and then %q", what, diskTold(impl.Disk{Files: before}), diskTold(again))
	}
}

func TestDisksAreNewMemory(t *testing.T) {
	some := []string{"a=1", "a=1|b.tmp=2|c=3", "a=1|b=2|c=3", "c=3|b=2", "a=|a="}
	acts := []impl.Act{makeOf("a"), makeOf("b"), makeOf("z"), addTo("a", ""), addTo("a", "x"), renameOf("a", "a"), renameOf("a", "z"), renameOf("a", "c"), removeOf("a"), {}, removeOf("nowhere"), addTo("a", strings.Repeat("x", impl.MaxFile+1))}
	for _, text := range some {
		for _, a := range acts {
			checkDiskMemory(t, "Do of "+actTold(a), diskOf(text), []impl.Act{a}, func(d impl.Disk, acts []impl.Act) impl.Disk {
				next, _ := impl.Do(d, acts[0])
				return next
			})
		}
		for _, most := range []int{-1, 0, 1, 3, 99} {
			for _, list := range [][]impl.Act{nil, acts, slices.Repeat(acts, impl.MaxActs)} {
				checkDiskMemory(t, "Play", diskOf(text), list, func(d impl.Disk, acts []impl.Act) impl.Disk {
					next, _ := impl.Play(d, acts, most)
					return next
				})
			}
		}
		checkDiskMemory(t, "Recover", diskOf(text), nil, func(d impl.Disk, _ []impl.Act) impl.Disk {
			next, _ := impl.Recover(d)
			return next
		})
		checkDiskMemory(t, "DiskOk", diskOf(text), nil, func(d impl.Disk, _ []impl.Act) impl.Disk {
			impl.DiskOk(d)
			return impl.Disk{}
		})
	}
}

func TestBatchesAreNewMemory(t *testing.T) {
	students := roomyList([]impl.Student{{Id: "bob", Source: "+/ w"}, {Id: "ann", Source: "w +"}, {Id: "zed", Source: "roll w"}}, impl.Student{Id: "behind"})
	before := wholeList(students)
	const tests = "2:1 2 => :3\n:5 => :6\n:7 => :7\n"
	first := batchOf(t, students, tests, plenty())
	want := slices.Clone(first)
	second := batchOf(t, students, tests, plenty())
	if stretchOf(first).meets(stretchOf(second)) {
		t.Errorf("two lists of acts share memory")
	}
	clear(second)
	third := batchOf(t, students, tests, plenty())
	if !slices.Equal(before, students[:cap(students)]) {
		t.Errorf("the students are changed: %v", students[:cap(students)])
	}
	clear(students)
	if !slices.Equal(first, want) || !slices.Equal(third, want) {
		t.Errorf("the acts changed with the students or with other acts")
	}
}

// Nothing of one batch is to be seen in the next.
func TestBatchesKeepNothing(t *testing.T) {
	r := &player{dice: dice{121}, rolls: true}
	for range 60 {
		b := r.batch(impl.MaxStudents)
		want := b.acts(t)
		before := slices.Clone(b.students)
		r.batch(impl.MaxStudents).acts(t)
		impl.Batch(b.students, "x", b.l)
		impl.Batch(append(slices.Clone(b.students), b.students...), b.text(), b.l)
		played(t, want)
		if !slices.Equal(b.acts(t), want) || !slices.Equal(b.students, before) {
			t.Fatalf("%v has other acts the second time", before)
		}
	}
}
