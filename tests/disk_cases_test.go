package tests

import (
	"fmt"
	"slices"
	"strings"
	"testing"

	"loop.example/s02135/impl"
)

// diskOf has the files of a text `NAME=DATA|NAME=DATA`.
func diskOf(text string) impl.Disk {
	var d impl.Disk
	if text == "" {
		return d
	}
	for _, file := range strings.Split(text, "|") {
		name, data, _ := strings.Cut(file, "=")
		d.Files = append(d.Files, impl.File{Name: name, Data: data})
	}
	return d
}

// diskTold is a disk in words, also one that is not valid.
func diskTold(d impl.Disk) string {
	list := make([]string, len(d.Files))
	for i, f := range d.Files {
		list[i] = f.Name + "=" + f.Data
	}
	return strings.Join(list, "|")
}

// manyFiles has so many files, all with the same data.
func manyFiles(n int, data string) impl.Disk {
	var d impl.Disk
	for i := range n {
		d.Files = append(d.Files, impl.File{Name: fmt.Sprintf("f%06d", i), Data: data})
	}
	return d
}

func makeOf(name string) impl.Act { return impl.Act{Kind: impl.ActMake, Name: name} }

func addTo(name, data string) impl.Act {
	return impl.Act{Kind: impl.ActAdd, Name: name, Data: data}
}

func renameOf(name, to string) impl.Act {
	return impl.Act{Kind: impl.ActRename, Name: name, To: to}
}

func removeOf(name string) impl.Act { return impl.Act{Kind: impl.ActRemove, Name: name} }

func actTold(a impl.Act) string {
	return fmt.Sprintf("act %d %q %q %q", a.Kind, short(a.Name), short(a.To), short(a.Data))
}

// checkDo asks for an act that is done.
func checkDo(t *testing.T, d impl.Disk, a impl.Act, want impl.Disk) {
	t.Helper()
	got, code := impl.Do(d, a)
	if code != 0 || !slices.Equal(got.Files, want.Files) {
		t.Errorf("%s on %q: %q %d, want %q", actTold(a), short(diskTold(d)), short(diskTold(got)), code, short(diskTold(want)))
	}
	if !impl.DiskOk(got) {
		t.Errorf("%s on %q left a disk that is not valid", actTold(a), short(diskTold(d)))
	}
}

// checkRefusedAct asks for a code, and for the disk as given.
func checkRefusedAct(t *testing.T, d impl.Disk, a impl.Act, want int) {
	t.Helper()
	got, code := impl.Do(d, a)
	if code != want || !slices.Equal(got.Files, d.Files) {
		t.Errorf("%s on %q: %q %d, want code %d", actTold(a), short(diskTold(d)), short(diskTold(got)), code, want)
	}
}

func checkDisk(t *testing.T, d impl.Disk, want bool) {
	t.Helper()
	if got := impl.DiskOk(d); got != want {
		t.Errorf("DiskOk of %q, %d files: %v", short(diskTold(d)), len(d.Files), got)
	}
}

// rightNames are names of files, wrongNames are none.
func rightNames() []string {
	return []string{"a", "Z", "0", ".", "_", "..", ".tmp", "tmp", "a.tmp", "a.tmp.txt", "staff_log.txt", "A_b.C9", strings.Repeat("n", 39), strings.Repeat("n", 40), strings.Repeat(".", 40)}
}

func wrongNames() []string {
	return []string{"", " ", "a b", " a", "a ", "a-b", "a/b", "/a", "a\\b", "a\n", "\na", "a\x00", "\x00", "a:b", "a,b", "a=b", "~", "@", "[", "`", "{", "/", ":", "-", "^", "\u00e9", "a\u00e9", "a\u0661", "\uff21", "a\xff", strings.Repeat("n", 41), strings.Repeat("n", 42), strings.Repeat("n", 40) + " ", strings.Repeat("n", 1000000)}
}

// badDisks are not valid, each for another reason.
func badDisks() []impl.Disk {
	list := []impl.Disk{
		diskOf("b=|a="), diskOf("a=|a="), diskOf("a=1|c=2|b=3"), diskOf("a=1|b=2|b=2"), diskOf("a=|B="), diskOf("a=|A="), diskOf("aa=|a="), diskOf("_=|Z="), diskOf("a=|.="),
		diskOf("a=" + strings.Repeat("x", impl.MaxFile+1)),
		diskOf("a=|b=|c=" + strings.Repeat("x", impl.MaxFile+1)),
		diskOf("a=" + strings.Repeat("x", impl.MaxFile+1) + "|b="),
		manyFiles(impl.MaxFiles+1, ""), manyFiles(impl.MaxFiles+2, "x"), manyFiles(100000, ""),
		{Files: make([]impl.File, impl.MaxFiles+1)},
	}
	for _, name := range wrongNames() {
		list = append(list, impl.Disk{Files: []impl.File{{Name: name}}})
	}
	// A name that is none in each place of disks whose names ascend.
	return append(list, diskOf("=|a=|b="), diskOf("a=|a-b=|b="), diskOf("a=|b=|c =1"), diskOf(" =|a="))
}

func TestDisks(t *testing.T) {
	for _, text := range []string{"", "a=", "a=1", "a=|b=", "A=|a=", "9=|A=|_=|a=", ".=|..=|.a=|0=", "a=|a.=|a0=|aA=|a_=|aa=|b=", "a=1|a.tmp=2|a.txt=3"} {
		checkDisk(t, diskOf(text), true)
	}
	for _, name := range rightNames() {
		checkDisk(t, impl.Disk{Files: []impl.File{{Name: name}}}, true)
	}
	for i, d := range badDisks() {
		if impl.DiskOk(d) {
			t.Errorf("bad disk %d is said to be valid", i)
		}
	}
	for b := range 256 {
		right := strings.IndexByte("0123456789abcdefghijklmnopqrstuvwxyzABCDEFGHIJKLMNOPQRSTUVWXYZ._", byte(b)) >= 0
		for _, name := range []string{string([]byte{byte(b)}), string([]byte{'a', byte(b), 'c'}), string([]byte{'a', 'b', byte(b)})} {
			checkDisk(t, impl.Disk{Files: []impl.File{{Name: name, Data: "x"}}}, right)
		}
	}
	checkDisk(t, impl.Disk{Files: []impl.File{}}, true)
	checkDisk(t, diskOf("a="+strings.Repeat("x", impl.MaxFile-1)), true)
	checkDisk(t, diskOf("a="+strings.Repeat("\x00\xff", impl.MaxFile/2)), true)
	checkDisk(t, manyFiles(impl.MaxFiles-1, "x"), true)
	checkDisk(t, manyFiles(impl.MaxFiles, strings.Repeat("x", impl.MaxFile)), true)
}

func TestActs(t *testing.T) {
	const some = "a=1|b.tmp=2|c=3"
	for _, c := range []struct {
		before string
		act    impl.Act
		after  string
	}{
		{"", makeOf("a"), "a="},
		{some, makeOf("A"), "A=|a=1|b.tmp=2|c=3"},
		{some, makeOf("b"), "a=1|b=|b.tmp=2|c=3"},
		{some, makeOf("d"), "a=1|b.tmp=2|c=3|d="},
		{some, makeOf("a"), "a=|b.tmp=2|c=3"},
		{some, makeOf("c"), "a=1|b.tmp=2|c="},
		{"a=", makeOf("a"), "a="},
		{some, addTo("a", "xy"), "a=1xy|b.tmp=2|c=3"},
		{some, addTo("c", "\n"), "a=1|b.tmp=2|c=3\n"},
		{some, addTo("a", ""), some},
		{"a=", addTo("a", ""), "a="},
		{"a=", addTo("a", "1"), "a=1"},
		{some, renameOf("a", "b"), "b=1|b.tmp=2|c=3"},
		{some, renameOf("a", "d"), "b.tmp=2|c=3|d=1"},
		{some, renameOf("c", "A"), "A=3|a=1|b.tmp=2"},
		{some, renameOf("b.tmp", "b.txt"), "a=1|b.txt=2|c=3"},
		{some, renameOf("b.tmp", "a"), "a=2|c=3"},
		{some, renameOf("a", "c"), "b.tmp=2|c=1"},
		{some, renameOf("a", "a"), some},
		{some, renameOf("c", "c"), some},
		{"a=", renameOf("a", "b"), "b="},
		{"a=|b=x", renameOf("a", "b"), "b="},
		{some, removeOf("a"), "b.tmp=2|c=3"},
		{some, removeOf("b.tmp"), "a=1|c=3"},
		{some, removeOf("c"), "a=1|b.tmp=2"},
		{"a=1", removeOf("a"), ""},
	} {
		checkDo(t, diskOf(c.before), c.act, diskOf(c.after))
	}
	for _, name := range rightNames() {
		one := impl.Disk{Files: []impl.File{{Name: name, Data: "1"}}}
		checkDo(t, impl.Disk{}, makeOf(name), impl.Disk{Files: []impl.File{{Name: name}}})
		checkDo(t, one, addTo(name, "2"), impl.Disk{Files: []impl.File{{Name: name, Data: "12"}}})
		checkDo(t, one, renameOf(name, "x"), diskOf("x=1"))
		checkDo(t, diskOf("x=1"), renameOf("x", name), one)
		checkDo(t, one, removeOf(name), impl.Disk{})
	}
}

// Code 1 comes ahead of all others.
func TestActsOnDisksThatAreNotValid(t *testing.T) {
	for _, d := range badDisks() {
		for _, a := range []impl.Act{makeOf("a"), addTo("a", "x"), renameOf("a", "b"), removeOf("a"), {}, {Kind: 5}, makeOf(""), removeOf("nowhere"), addTo("a", strings.Repeat("x", impl.MaxFile))} {
			checkRefusedAct(t, d, a, 1)
		}
	}
}

// Code 2 comes ahead of 3 and 4.
func TestActsThatAreNone(t *testing.T) {
	const great = 1 << 62
	long := strings.Repeat("x", impl.MaxFile+1)
	full := manyFiles(impl.MaxFiles, "x")
	for _, a := range []impl.Act{
		{}, {Name: "a"}, {Kind: -1, Name: "a"}, {Kind: 5, Name: "a"}, {Kind: great, Name: "a"}, {Kind: -great, Name: "a"}, {Kind: 5, Name: "a", To: "b", Data: "x"}, {Kind: 0, Name: "nowhere"},
		{Kind: impl.ActMake, Name: "a", To: "b"}, {Kind: impl.ActMake, Name: "a", To: " "}, {Kind: impl.ActMake, Name: "a", Data: "x"}, {Kind: impl.ActMake, Name: "new", To: "b"}, {Kind: impl.ActMake, Name: "new", Data: "x"}, {Kind: impl.ActMake, Name: "new", Data: long},
		{Kind: impl.ActAdd, Name: "a", To: "b"}, {Kind: impl.ActAdd, Name: "a", To: "a", Data: "x"}, {Kind: impl.ActAdd, Name: "nowhere", To: "b", Data: "x"}, {Kind: impl.ActAdd, Name: "a", To: "b", Data: long},
		{Kind: impl.ActRename, Name: "a"}, {Kind: impl.ActRename, Name: "nowhere"}, {Kind: impl.ActRename, Name: "a", To: "b", Data: "x"}, {Kind: impl.ActRename, Name: "a", To: "a", Data: "x"}, {Kind: impl.ActRename, Name: "nowhere", To: "b", Data: "x"}, {Kind: impl.ActRename, To: "b"},
		{Kind: impl.ActRemove, Name: "a", To: "b"}, {Kind: impl.ActRemove, Name: "a", Data: "x"}, {Kind: impl.ActRemove, Name: "nowhere", To: "b"}, {Kind: impl.ActRemove, Name: "nowhere", Data: "x"},
	} {
		checkRefusedAct(t, diskOf("a=1|b=2"), a, 2)
		checkRefusedAct(t, impl.Disk{}, a, 2)
		checkRefusedAct(t, full, a, 2)
	}
	for _, name := range wrongNames() {
		for _, a := range []impl.Act{makeOf(name), addTo(name, "x"), addTo(name, long), renameOf(name, "b"), renameOf("a", name), renameOf("nowhere", name), renameOf(name, name), removeOf(name)} {
			checkRefusedAct(t, diskOf("a=1|b=2"), a, 2)
			checkRefusedAct(t, full, a, 2)
		}
	}
}

// Code 3 comes ahead of 4.
func TestActsOnFilesThatAreNotThere(t *testing.T) {
	long := strings.Repeat("x", impl.MaxFile+1)
	for _, d := range []impl.Disk{{}, diskOf("a=1|b=2"), manyFiles(impl.MaxFiles, "x")} {
		for _, name := range []string{"c", "A", "a.tmp", "aa", ".", "f00000", "f0000000", strings.Repeat("n", 40)} {
			for _, a := range []impl.Act{addTo(name, ""), addTo(name, "x"), addTo(name, long), renameOf(name, "a"), renameOf(name, "z"), renameOf(name, name), removeOf(name)} {
				checkRefusedAct(t, d, a, 3)
			}
		}
	}
}

func TestFullDisks(t *testing.T) {
	full, almost := manyFiles(impl.MaxFiles, "x"), manyFiles(impl.MaxFiles-1, "x")
	files := func(list ...[]impl.File) impl.Disk { return impl.Disk{Files: slices.Concat(list...)} }
	for _, name := range []string{"a", "z", "f00000", "f0000000", "f000199_"} {
		checkRefusedAct(t, full, makeOf(name), 4)
	}
	checkDo(t, almost, makeOf("a"), files([]impl.File{{Name: "a"}}, almost.Files))
	checkDo(t, almost, makeOf("z"), files(almost.Files, []impl.File{{Name: "z"}}))
	checkDo(t, full, makeOf("f000000"), files([]impl.File{{Name: "f000000"}}, full.Files[1:]))
	checkDo(t, full, addTo("f000000", "y"), files([]impl.File{{Name: "f000000", Data: "xy"}}, full.Files[1:]))
	checkDo(t, full, renameOf("f000000", "z"), files(full.Files[1:], []impl.File{{Name: "z", Data: "x"}}))
	checkDo(t, full, renameOf("f000000", "f000001"), files(full.Files[1:]))
	checkDo(t, full, renameOf("f000000", "f000000"), full)
	checkDo(t, full, removeOf("f000000"), files(full.Files[1:]))
}

func TestFullFiles(t *testing.T) {
	sized := func(n int) impl.Disk { return diskOf("a=1|b=" + strings.Repeat("x", n) + "|c=3") }
	for _, before := range []int{0, 1, 64, impl.MaxFile - 1, impl.MaxFile} {
		room := impl.MaxFile - before
		checkDo(t, sized(before), addTo("b", ""), sized(before))
		checkDo(t, sized(before), addTo("b", strings.Repeat("x", room)), sized(impl.MaxFile))
		for _, more := range []int{room + 1, room + 2, room + 10*impl.MaxFile} {
			checkRefusedAct(t, sized(before), addTo("b", strings.Repeat("x", more)), 4)
		}
	}
	checkDo(t, sized(impl.MaxFile), makeOf("b"), sized(0))
	checkDo(t, sized(impl.MaxFile), renameOf("b", "d"), diskOf("a=1|c=3|d="+strings.Repeat("x", impl.MaxFile)))
	checkDo(t, sized(impl.MaxFile), renameOf("b", "b"), sized(impl.MaxFile))
	checkDo(t, sized(impl.MaxFile), removeOf("b"), diskOf("a=1|c=3"))
}
