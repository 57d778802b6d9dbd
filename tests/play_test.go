package tests

import (
	"slices"
	"strconv"
	"strings"
	"testing"

	"loop.example/s02135/impl"
)

func checkPlay(t *testing.T, d impl.Disk, acts []impl.Act, most int, want impl.Disk, done int) {
	t.Helper()
	got, n := impl.Play(d, acts, most)
	if n != done || !slices.Equal(got.Files, want.Files) {
		t.Errorf("Play of %d of %d acts on %q: %q %d, want %q %d", most, len(acts), short(diskTold(d)), short(diskTold(got)), n, short(diskTold(want)), done)
	}
}

func checkRecover(t *testing.T, d impl.Disk, want impl.Disk, wantOk bool) {
	t.Helper()
	got, ok := impl.Recover(d)
	if ok != wantOk || !slices.Equal(got.Files, want.Files) {
		t.Errorf("Recover of %q: %q %v, want %q %v", short(diskTold(d)), short(diskTold(got)), ok, short(diskTold(want)), wantOk)
	}
}

func TestPlayedActs(t *testing.T) {
	const great = 1 << 62
	acts := []impl.Act{makeOf("b.tmp"), addTo("b.tmp", "x"), addTo("b.tmp", "y"), renameOf("b.tmp", "b"), makeOf("c"), removeOf("a")}
	disks := []string{"a=1", "a=1|b.tmp=", "a=1|b.tmp=x", "a=1|b.tmp=xy", "a=1|b=xy", "a=1|b=xy|c=", "b=xy|c="}
	for n, want := range disks {
		checkPlay(t, diskOf("a=1"), acts, n, diskOf(want), n)
		checkPlay(t, diskOf("a=1"), acts[:n], n, diskOf(want), n)
		checkPlay(t, diskOf("a=1"), acts[:n], n+1, diskOf(want), n)
		checkPlay(t, diskOf("a=1"), acts[:n], great, diskOf(want), n)
	}
	for _, most := range []int{-1, -2, -6, -great, 0} {
		checkPlay(t, diskOf("a=1"), acts, most, diskOf("a=1"), 0)
		checkPlay(t, impl.Disk{}, nil, most, impl.Disk{}, 0)
	}
	for _, most := range []int{6, 7, 8, impl.MaxActs, impl.MaxActs + 1, great} {
		checkPlay(t, diskOf("a=1"), acts, most, diskOf("b=xy|c="), 6)
		checkPlay(t, diskOf("a=1"), nil, most, diskOf("a=1"), 0)
	}
}

// The acts behind one with a code are not done, although they could be.
func TestPlayStopsAtTheFirstCode(t *testing.T) {
	const great = 1 << 62
	full := manyFiles(impl.MaxFiles, "")
	long := strings.Repeat("x", impl.MaxFile)
	for _, bad := range []impl.Act{{}, {Kind: 5, Name: "a"}, makeOf("a b"), addTo("c", "x"), renameOf("c", "d"), renameOf("b", ""), removeOf("c"), addTo("b", long+"x"), {Kind: impl.ActMake, Name: "a", Data: "x"}} {
		acts := []impl.Act{makeOf("b"), addTo("b", "2"), bad, makeOf("c"), removeOf("b"), bad, makeOf("d")}
		checkPlay(t, diskOf("a=1"), acts, 1, diskOf("a=1|b="), 1)
		checkPlay(t, diskOf("a=1"), acts, 2, diskOf("a=1|b=2"), 2)
		for _, most := range []int{3, 4, 7, 8, great} {
			checkPlay(t, diskOf("a=1"), acts, most, diskOf("a=1|b=2"), 2)
		}
		checkPlay(t, diskOf("a=1"), acts[2:], 9, diskOf("a=1"), 0)
		checkPlay(t, diskOf("a=1"), acts[:3], 9, diskOf("a=1|b=2"), 2)
	}
	checkPlay(t, full, []impl.Act{makeOf("z"), removeOf("f000000")}, 9, full, 0)
	checkPlay(t, full, []impl.Act{removeOf("f000000"), makeOf("z"), makeOf("zz")}, 9, impl.Disk{Files: append(slices.Clone(full.Files[1:]), impl.File{Name: "z"})}, 2)
	checkPlay(t, diskOf("a=1"), []impl.Act{addTo("a", long[1:]), addTo("a", ""), addTo("a", "x"), makeOf("a")}, 9, diskOf("a=1"+long[1:]), 2)
}

func TestPlayOnDisksThatAreNotValid(t *testing.T) {
	const great = 1 << 62
	acts := []impl.Act{makeOf("a"), removeOf("a")}
	for _, d := range badDisks() {
		for _, most := range []int{-1, 0, 1, 2, great} {
			checkPlay(t, d, acts, most, d, 0)
			checkPlay(t, d, nil, most, d, 0)
		}
	}
}

func TestAsManyActsAsMayBe(t *testing.T) {
	const great = 1 << 62
	most := make([]impl.Act, 0, impl.MaxActs+1)
	most = append(most, makeOf("a"))
	for len(most) < impl.MaxActs {
		most = append(most, addTo("a", strconv.Itoa(len(most)%10)))
	}
	data := strings.Repeat("1234567890", impl.MaxActs/10)[:impl.MaxActs-1]
	for _, n := range []int{impl.MaxActs, impl.MaxActs + 1, great} {
		checkPlay(t, impl.Disk{}, most, n, diskOf("a="+data), impl.MaxActs)
	}
	checkPlay(t, impl.Disk{}, most, impl.MaxActs-1, diskOf("a="+data[:len(data)-1]), impl.MaxActs-1)
	checkPlay(t, impl.Disk{}, most, 1, diskOf("a="), 1)
	many := append(most, removeOf("a"))
	for _, list := range [][]impl.Act{many, make([]impl.Act, impl.MaxActs+1), slices.Repeat(most, 3)} {
		for _, n := range []int{-1, 0, 1, 5, impl.MaxActs, impl.MaxActs + 1, great} {
			checkPlay(t, impl.Disk{}, list, n, impl.Disk{}, 0)
			checkPlay(t, diskOf("a=1|b=2"), list, n, diskOf("a=1|b=2"), 0)
		}
	}
	for _, d := range badDisks() {
		checkPlay(t, d, many, great, d, 0)
	}
}

func TestRecover(t *testing.T) {
	for _, c := range []struct{ before, after string }{
		{"", ""},
		{"a=1|b=2", "a=1|b=2"},
		{"a.tmp=1", ""},
		{".tmp=1", ""},
		{"a=1|a.tmp=2|b.tmp=3|c=4|d.tmp=5", "a=1|c=4"},
		{"a.tmp=1|b.tmp=2|c.tmp=3", ""},
		{"..tmp=1|.tmp.tmp=2|a.tmp.tmp=3", ""},
		// Names that only look like it.
		{".TMP=1|.tmp.=2|_tmp=3|a.Tmp=4|a.tmp.txt=5|a.tmpx=6|a_tmp=7|atmp=8|b.tm=9|tmp=10|tmp.=11", ".TMP=1|.tmp.=2|_tmp=3|a.Tmp=4|a.tmp.txt=5|a.tmpx=6|a_tmp=7|atmp=8|b.tm=9|tmp=10|tmp.=11"},
		{"a.tmp=1|a.txt=2|staff_log.tmp=3|staff_log.txt=4", "a.txt=2|staff_log.txt=4"},
		{"a=1.tmp|b.tmp=", "a=1.tmp"},
		{strings.Repeat("n", 36) + ".tmp=1|" + strings.Repeat("n", 37) + ".tm=2", strings.Repeat("n", 37) + ".tm=2"},
	} {
		checkRecover(t, diskOf(c.before), diskOf(c.after), true)
		checkRecover(t, diskOf(c.after), diskOf(c.after), true)
	}
	full := manyFiles(impl.MaxFiles, strings.Repeat("x", impl.MaxFile))
	checkRecover(t, full, full, true)
	for i := range full.Files {
		full.Files[i].Name += ".tmp"
	}
	checkRecover(t, full, impl.Disk{}, true)
}

func TestRecoverOfDisksThatAreNotValid(t *testing.T) {
	for _, d := range append(badDisks(), diskOf("b.tmp=|a.tmp="), diskOf("a.tmp=|a.tmp="), diskOf("a b.tmp="), diskOf("a=|b=|a.tmp="), diskOf("a.tmp="+strings.Repeat("x", impl.MaxFile+1)), diskOf(strings.Repeat("n", 37)+".tmp=")) {
		checkRecover(t, d, d, false)
	}
}
