package commit_test

import (
	"slices"
	"strings"
	"testing"

	"heartwood/api"
	"heartwood/commit"
	"heartwood/disk"
	"heartwood/page"
	"heartwood/trunk"
)

// codes are what all calls of a file that answer an error answer; a commit is of a change with that base, and of none.
func codes(f *commit.File, base api.Root) map[string]api.Errno {
	c := leafChange(f.Config().Frame, base, api.Pair{Key: "a"})
	l := map[string]api.Errno{
		"State": f.State(), "Commit": f.Commit(c), "CommitAs(2)": f.CommitAs(c, 2), "CommitAs(0)": f.CommitAs(c, 0), "CommitAs(MaxVersion)": f.CommitAs(c, newest),
		"Again(1)": f.Again(1), "Again(9)": f.Again(9), "Drop(1)": f.Drop(1), "Drop(9)": f.Drop(9),
	}
	other := leafChange(f.Config().Frame, api.Root{Page: 7}, api.Pair{Key: "a"})
	l["Commit of another tree's"], l["CommitAs of another tree's"] = f.Commit(other), f.CommitAs(other, 1)
	for _, no := range []uint32{0, 1, 2, 9, 1 << 31} {
		p, e := f.Page(no)
		l["Page"] = both(l["Page"], e, p == (api.Page{}))
	}
	x, e := f.Edit()
	l["Edit"] = both(e, e, x == nil)
	v, e := f.Hold()
	l["Hold"] = both(e, e, v == 0)
	for _, v := range []uint64{0, 1, 2, newest} {
		tree, e := f.Tree(v)
		l["Tree"] = both(l["Tree"], e, tree == nil)
	}
	return l
}

// both answers an error that two answers have, beside nothing else; or -1.
func both(a, b api.Errno, alone bool) api.Errno {
	if alone && (a == b || a == api.OK) {
		return b
	}
	return -1
}

// answers holds what all calls of a file answer against one error; and a nil change is told ahead of it.
func answers(t *testing.T, what string, f *commit.File, base api.Root, due api.Errno) {
	t.Helper()
	for call, e := range codes(f, base) {
		if e != due {
			t.Errorf("%s: %s: %v, and not %v", what, call, e, due)
		}
	}
	if f.Commit(nil) != api.ErrNil || f.CommitAs(nil, 2) != api.ErrNil || f.CommitAs(nil, 0) != api.ErrNil {
		t.Errorf("%s: a nil change", what)
	}
}

// No file, and those that Open did not make.
func TestNoFile(t *testing.T) {
	shelf, e := page.NewShelf(small().Frame, api.Page{Kind: api.PageLeaf, No: 2, Version: 1})
	if e != api.OK {
		t.Fatal(e)
	}
	refused, _ := commit.Open(newDisk(t, 1024, 9), api.Config{})
	for what, f := range map[string]*commit.File{"nil": nil, "zero": {}, "one that somebody gave pages": {Pages: shelf}, "one whose Open refused": refused} {
		answers(t, what, f, api.Root{}, api.ErrNil)
		if f.Config() != (api.Config{}) || f.Meta() != (api.Meta{}) || len(f.Held())+len(f.Lists())+len(f.Free())+len(f.Kept()) > 0 {
			t.Errorf("%s: %v %v", what, f.Config(), f.Meta())
		}
	}
}

// known is a file with one leaf, which is at version 2, holds the versions 1 and 2, and has a page of each kind.
type known struct {
	d                 *disk.Disk
	f                 *commit.File
	m                 api.Meta
	tree              *trunk.Tree
	lists, free, kept []uint32
}

func knownFile(t *testing.T) *known {
	t.Helper()
	d, f := first(t)
	k := &known{d: d, f: f}
	if _, e := f.Hold(); e != api.OK || commitLeaf(f, "a", "2") != api.OK {
		t.Fatal("a commit")
	}
	if v, e := f.Hold(); e != api.OK || v != 2 {
		t.Fatal("a hold")
	}
	tree, e := f.Tree(1)
	if e != api.OK {
		t.Fatal(e)
	}
	k.tree, k.m, k.lists, k.free, k.kept = tree, f.Meta(), f.Lists(), f.Free(), f.Kept()
	return k
}

// is holds all that can be asked of the file against its state: what asks none tells what it told last.
func (k *known) is(t *testing.T, what string, due api.Errno) {
	t.Helper()
	if due != api.OK {
		answers(t, what, k.f, k.m.Root, due)
	}
	if k.f.State() != due {
		t.Errorf("%s: State: %v", what, k.f.State())
	}
	if val, _, e := k.tree.Get("a"); e != due || (e == api.OK) != (val == "1") {
		t.Errorf("%s: a tree that was got ahead: %q %v", what, val, e)
	}
	if k.f.Config() != small() || k.f.Meta() != k.m || !slices.Equal(k.f.Held(), []uint64{1, 2}) {
		t.Errorf("%s: %v %v %v", what, k.f.Config(), k.f.Meta(), k.f.Held())
	}
	if !slices.Equal(k.f.Lists(), k.lists) || !slices.Equal(k.f.Free(), k.free) || !slices.Equal(k.f.Kept(), k.kept) {
		t.Errorf("%s: Lists %v, Free %v, Kept %v", what, k.f.Lists(), k.f.Free(), k.f.Kept())
	}
}

// giveUp has a commit of the file fail.
func (k *known) giveUp(t *testing.T) {
	t.Helper()
	armed(t, k.d, api.Arm{On: api.ActWrite, Nth: 1})
	if e := commitLeaf(k.f, "a", "x"); e != api.ErrIO {
		t.Fatal(e)
	}
}

func (k *known) crash(t *testing.T) {
	t.Helper()
	if e := k.d.Crash(); e != api.OK {
		t.Fatal(e)
	}
}

func (k *known) wake(t *testing.T) {
	t.Helper()
	if e := k.d.Wake(); e != api.OK {
		t.Fatal(e)
	}
}

// take has somebody else open the disk.
func (k *known) take(t *testing.T) {
	t.Helper()
	opened(t, k.d, small())
}

// Given up, dead and passed by, each at every call, alone and together: given up is told first, then dead, then passed by.
func TestStates(t *testing.T) {
	k := knownFile(t)
	k.is(t, "as it was opened", api.OK)

	k.giveUp(t)
	k.is(t, "given up", api.ErrState)
	k.crash(t)
	k.is(t, "given up, and off", api.ErrState)
	k.wake(t)
	k.is(t, "given up, and dead", api.ErrState)
	k.take(t)
	k.is(t, "given up, dead, and passed by", api.ErrState)

	k = knownFile(t)
	k.crash(t)
	k.is(t, "off", api.ErrOff)
	k.wake(t)
	k.is(t, "dead", api.ErrOff)
	k.take(t)
	k.is(t, "dead, and passed by", api.ErrOff)
	k.crash(t)
	k.is(t, "off again, and passed by", api.ErrOff)

	k = knownFile(t)
	k.take(t)
	k.is(t, "passed by", api.ErrState)
	k.take(t)
	k.is(t, "passed by twice", api.ErrState)
	k.crash(t)
	k.is(t, "passed by, and off", api.ErrOff)
	k.wake(t)
	k.is(t, "passed by, and dead", api.ErrOff)

	k = knownFile(t)
	if _, e := k.d.Take(); e != api.OK {
		t.Fatal(e)
	}
	k.is(t, "the disk was taken by nobody's file", api.ErrState)

	k = knownFile(t)
	k.d.Fork().Crash()
	opened(t, k.d.Fork(), small())
	k.is(t, "a fork of the disk has its own life", api.OK)
}

// Which power counts: of a file that was opened behind a loss of power the one ahead is nothing.
func TestStateBehindWake(t *testing.T) {
	d, old := first(t)
	for i := range 3 {
		if d.Crash() != api.OK || d.Wake() != api.OK {
			t.Fatal("the power")
		}
		f := opened(t, d, small())
		if f.State() != api.OK || got(t, f, f.Meta().Version, "a") == "" || old.State() != api.ErrOff {
			t.Error(f.State(), old.State())
		}
		if e := commitLeaf(f, "a", strings.Repeat("x", i+1)); e != api.OK {
			t.Error(e)
		}
		old = f
	}
}

// An Edit reads through its file: where nothing can be read, it answers the file's error, and it can be committed to no other file of the disk but one that is at its base.
func TestEditOfAFile(t *testing.T) {
	d, f := first(t)
	x, e := f.Edit()
	if e != api.OK {
		t.Fatal(e)
	}
	g := opened(t, d, small())
	if _, e := x.Put("b", "1"); e != api.ErrState {
		t.Error("passed by:", e)
	}
	y, _ := g.Edit()
	y.Put("b", "1")
	if f.Commit(y) != api.ErrState || g.Commit(x) != api.OK || g.Commit(y) != api.OK || got(t, g, 3, "b") != "1" {
		t.Error("x changes nothing, so y has its base yet")
	}
	z, _ := g.Edit()
	if d.Crash() != api.OK {
		t.Fatal("the power")
	}
	if _, e := z.Delete("a"); e != api.ErrOff {
		t.Error("off:", e)
	}
}

// Two files over one disk, by turns: whoever opened it last can do all, the other one nothing.
func TestTwoFiles(t *testing.T) {
	for _, f := range sizes() {
		c := wide(f)
		d := newDisk(t, f.Page, 5000)
		a := opened(t, d, c)
		for n := range uint64(10) {
			if e := commitLeaf(a, "a", string(rune('a'+n))); e != api.OK {
				t.Fatal(e)
			}
			if v, e := a.Hold(); v != n+1 || e != api.OK {
				t.Fatal(v, e)
			}
			b := opened(t, d, c)
			if a.State() != api.ErrState || b.State() != api.OK || b.Meta() != a.Meta() || !slices.Equal(a.Held(), []uint64{n + 1}) || len(b.Held()) > 0 {
				t.Fatal(a.State(), b.State())
			}
			was := d.Acts()
			if commitLeaf(a, "a", "z") != api.ErrState || a.Drop(n+1) != api.ErrState || d.Acts() != was {
				t.Fatal("the older file works on")
			}
			a = b
		}
	}
}

// Each Edit and each Tree is one of its own.
func TestEditsApart(t *testing.T) {
	_, f := first(t)
	x, _ := f.Edit()
	y, _ := f.Edit()
	if _, e := x.Put("a", "9"); e != api.OK || x == y || y.Changed() != 0 || y.Root() != f.Meta().Root {
		t.Error("two Edits", e)
	}
	a, _ := f.Tree(1)
	b, _ := f.Tree(1)
	*a = trunk.Tree{}
	if val, is, e := b.Get("a"); val != "1" || !is || e != api.OK {
		t.Error("two Trees", val, is, e)
	}
	if got(t, f, 1, "a") != "1" {
		t.Error("a third Tree")
	}
}
