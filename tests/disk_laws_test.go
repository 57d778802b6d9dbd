package tests

import (
	"cmp"
	"regexp"
	"slices"
	"strings"
	"testing"

	"loop.example/s02135/impl"
)

var fileName = regexp.MustCompile(`\A[A-Za-z0-9._]{1,40}\z`)

func modelDiskOk(d impl.Disk) bool {
	ok := len(d.Files) <= impl.MaxFiles
	for i := range d.Files {
		ok = ok && fileName.MatchString(d.Files[i].Name) && len(d.Files[i].Data) <= impl.MaxFile
		for _, later := range d.Files[i+1:] {
			ok = ok && d.Files[i].Name < later.Name
		}
	}
	return ok
}

// fieldsUsed says which fields beside Name an act of a kind uses.
type fieldsUsed struct{ to, data bool }

func modelKinds() map[int]fieldsUsed {
	return map[int]fieldsUsed{1: {}, 2: {data: true}, 3: {to: true}, 4: {}}
}

// modelDo reads the document's words on Do a second time, on the list itself:
// it does the act to a copy and looks at what came of it.
func modelDo(d impl.Disk, a impl.Act) (impl.Disk, int) {
	uses, known := modelKinds()[a.Kind]
	at := slices.IndexFunc(d.Files, func(f impl.File) bool { return f.Name == a.Name })
	switch {
	case !modelDiskOk(d):
		return d, 1
	case !known || !fileName.MatchString(a.Name) || uses.to && !fileName.MatchString(a.To):
		return d, 2
	case !uses.to && a.To != "" || !uses.data && a.Data != "":
		return d, 2
	case at < 0 && a.Kind != 1:
		return d, 3
	}
	var file impl.File
	next := slices.Clone(d.Files)
	if at >= 0 {
		file = next[at]
		next = slices.Delete(next, at, at+1)
	}
	switch a.Kind {
	case 1:
		next = append(next, impl.File{Name: a.Name})
	case 2:
		next = append(next, impl.File{Name: a.Name, Data: file.Data + a.Data})
	case 3:
		next = slices.DeleteFunc(next, func(f impl.File) bool { return f.Name == a.To })
		next = append(next, impl.File{Name: a.To, Data: file.Data})
	}
	slices.SortFunc(next, func(f, g impl.File) int { return cmp.Compare(f.Name, g.Name) })
	if !modelDiskOk(impl.Disk{Files: next}) {
		return d, 4
	}
	return impl.Disk{Files: next}, 0
}

func modelPlay(d impl.Disk, acts []impl.Act, most int) (impl.Disk, int) {
	for done, a := range acts {
		next, code := modelDo(d, a)
		if len(acts) > impl.MaxActs || done >= most || code != 0 {
			return d, done
		}
		d = next
	}
	return d, len(acts)
}

// clerk has few names, so that an act often finds its file.
type clerk struct {
	dice
	names []string
	long  string
}

func newClerk(state uint64) *clerk {
	return &clerk{
		dice:  dice{state},
		names: []string{".tmp", "9", "A", "_", "a", "a.tmp", "a.txt", "b", "b.tmp", strings.Repeat("n", 40)},
		long:  strings.Repeat("x", impl.MaxFile+1),
	}
}

func (c *clerk) name() string {
	if c.throw(30) == 0 {
		return oneOf(&c.dice, []string{"", "a b", strings.Repeat("n", 41), "-", "a\n"})
	}
	return oneOf(&c.dice, c.names)
}

func (c *clerk) data() string {
	if c.throw(8) == 0 {
		return c.long[oneOf(&c.dice, []int{0, 1, 2, impl.MaxFile / 2, impl.MaxFile/2 + 1}):]
	}
	return oneOf(&c.dice, []string{"", "x", "yz", "\n"})
}

func (c *clerk) act() impl.Act {
	switch a := (impl.Act{Name: c.name()}); c.throw(40) {
	case 0:
		return impl.Act{Kind: c.throw(8) - 1, Name: a.Name, To: c.name(), Data: c.data()}
	case 1:
		return impl.Act{Kind: 1 + c.throw(4), Name: a.Name, Data: c.data()}
	case 2:
		return impl.Act{Kind: 1 + c.throw(4), Name: a.Name, To: c.name()}
	default:
		switch a.Kind = 1 + c.throw(4); a.Kind {
		case impl.ActAdd:
			a.Data = c.data()
		case impl.ActRename:
			a.To = c.name()
		}
		return a
	}
}

// disk is valid but for a few.
func (c *clerk) disk() impl.Disk {
	var d impl.Disk
	for _, name := range c.names {
		if c.throw(2) == 0 {
			d.Files = append(d.Files, impl.File{Name: name, Data: oneOf(&c.dice, []string{"", "1", "23", c.long[:impl.MaxFile/2], c.long[:impl.MaxFile]})})
		}
	}
	if len(d.Files) > 0 && c.throw(40) == 0 {
		d.Files[c.throw(len(d.Files))] = impl.File{Name: c.name(), Data: c.data()}
	}
	return d
}

// Promise 12: a valid disk stays valid; with a code it stays as it is.
func TestActsByChance(t *testing.T) {
	c := newClerk(101)
	codes := map[int]int{}
	for range 20000 {
		d, a := c.disk(), c.act()
		want, wantCode := modelDo(d, a)
		checkDisk(t, d, modelDiskOk(d))
		if codes[wantCode]++; wantCode == 0 {
			checkDo(t, d, a, want)
		} else {
			checkRefusedAct(t, d, a, wantCode)
		}
	}
	// Acts by chance are of use only as long as there are all codes.
	for code := range 5 {
		if codes[code] < 100 {
			t.Errorf("%d acts had the code %d", codes[code], code)
		}
	}
}

func TestPlaysByChance(t *testing.T) {
	c := newClerk(102)
	stopped, ended := 0, 0
	for range 3000 {
		d := c.disk()
		acts := make([]impl.Act, c.throw(12))
		for i := range acts {
			acts[i] = c.act()
			for range 3 {
				// Another try where the act would be refused, so that most lists go on for a while.
				before, n := modelPlay(d, acts[:i], i)
				if _, code := modelDo(before, acts[i]); n == i && code != 0 {
					acts[i] = c.act()
				}
			}
		}
		most := c.throw(15) - 1
		want, done := modelPlay(d, acts, most)
		checkPlay(t, d, acts, most, want, done)
		got, _ := impl.Play(d, acts, most)
		checkDisk(t, got, modelDiskOk(d))
		if done < min(most, len(acts)) {
			stopped++
		} else if done > 3 {
			ended++
		}
	}
	if stopped < 300 || ended < 300 {
		t.Errorf("%d stopped, %d ended", stopped, ended)
	}
}

// Play is Do again and again.
func TestPlayIsDoAgainAndAgain(t *testing.T) {
	c := newClerk(103)
	for range 300 {
		first := c.disk()
		d := first
		var acts []impl.Act
		for len(acts) < 20 {
			a := c.act()
			next, code := impl.Do(d, a)
			if code != 0 {
				stopped := append(slices.Clone(acts), a, makeOf("a"))
				checkPlay(t, first, stopped, len(stopped), d, len(acts))
				if code == 1 {
					break
				}
				continue
			}
			d = next
			acts = append(acts, a)
			checkPlay(t, first, acts, len(acts), d, len(acts))
		}
	}
}

// Promise 12 for Recover: what is left is valid, is what was there, and has no
// name that Recover would take out.
func TestRecoveriesByChance(t *testing.T) {
	c := newClerk(104)
	out := 0
	for range 5000 {
		d := c.disk()
		if !modelDiskOk(d) {
			checkRecover(t, d, d, false)
			continue
		}
		var want impl.Disk
		for _, f := range d.Files {
			if name := f.Name; len(name) < 4 || name[len(name)-4:] != ".tmp" {
				want.Files = append(want.Files, f)
			}
		}
		out += len(d.Files) - len(want.Files)
		checkRecover(t, d, want, true)
		checkRecover(t, want, want, true)
		checkDisk(t, want, true)
	}
	if out < 1000 {
		t.Errorf("%d files were taken out", out)
	}
}
