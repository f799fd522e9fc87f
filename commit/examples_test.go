package commit_test

import (
	"slices"
	"testing"

	"heartwood/api"
	"heartwood/commit"
	"heartwood/disk"
)

// leaf commits a leaf in the place of the present one, and answers by which acts; nothing of it waits.
func leaf(t *testing.T, d *disk.Disk, f *commit.File, val string) api.Acts {
	t.Helper()
	was := d.Acts()
	if e := commitLeaf(f, "a", val); e != api.OK || len(d.Waits()) > 0 {
		t.Fatal(e)
	}
	return since(was, d.Acts())
}

// first answers a new disk with the file of the chapter's examples at version 1.
func first(t *testing.T) (*disk.Disk, *commit.File) {
	t.Helper()
	d := newDisk(t, 1024, 9)
	f := opened(t, d, small())
	if n := leaf(t, d, f, "1"); n != (api.Acts{Writes: 2, Grows: 1, Syncs: 2}) {
		t.Fatal(n)
	}
	return d, f
}

func TestExampleOpen(t *testing.T) {
	d := newDisk(t, 1024, 9)
	f := opened(t, d, small())
	if f.Meta() != (api.Meta{Root: emptyRoot(small().Frame), Pages: 2}) || len(f.Lists()) > 0 || f.State() != api.OK {
		t.Error(f.Meta(), f.Lists(), f.State())
	}
	if d.Size() != 0 || d.Acts() != (api.Acts{Syncs: 1}) || d.Taken() != 1 {
		t.Error("what Open did", d.Size(), d.Acts(), d.Taken())
	}
}

func TestExampleCommit(t *testing.T) {
	d, f := first(t)
	m := f.Meta()
	if m.Version != 1 || m.Root.Page != 2 || m.Root.Version != 1 || m.Root.Count != 1 || m.Pages != 3 || m.List != 0 || d.Size() != 3 {
		t.Error(m)
	}
	c := leafChange(small().Frame, emptyRoot(small().Frame), api.Pair{Key: "a", Val: "1"})
	if f.Commit(c) != api.ErrOther || f.State() != api.OK || f.Meta() != m || c.laid > 0 {
		t.Error("its Base is the empty root")
	}
	image := d.Image()
	n := leaf(t, d, f, "2")
	m = f.Meta()
	if n != (api.Acts{Writes: 3, Grows: 1, Syncs: 2}) || d.Size() != 5 || m.Version != 2 || m.Root.Page != 3 || m.List != 4 || m.Pages != 5 {
		t.Error(n, m)
	}
	if !slices.Equal(f.Lists(), []uint32{4}) || !slices.Equal(f.Free(), []uint32{2}) || len(f.Kept()) > 0 {
		t.Error(f.Lists(), f.Free(), f.Kept())
	}
	if now := d.Image(); now[0] != image[0] || now[2] != image[2] || now[1] == image[1] {
		t.Error("the slot 1 is written to, and neither the slot 0 nor the page 2")
	}
}

func TestExampleHold(t *testing.T) {
	d, f := first(t)
	leaf(t, d, f, "2")
	if v, e := f.Hold(); v != 2 || e != api.OK {
		t.Fatal(v, e)
	}
	leaf(t, d, f, "3")
	if f.Meta().Root.Page != 2 || !slices.Equal(f.Kept(), []uint32{3}) {
		t.Error("the page 2 was free at the hold, and the page 3 is kept", f.Meta(), f.Kept())
	}
	held, _ := d.Read(3)
	leaf(t, d, f, "4")
	if now, _ := d.Read(3); now != held || !slices.Contains(f.Kept(), 3) || f.Meta().Root.Page == 3 || slices.Contains(f.Lists(), 3) {
		t.Error("the page 3 is taken", f.Meta(), f.Kept())
	}
	if got(t, f, 2, "a") != "2" || got(t, f, 4, "a") != "4" {
		t.Error("the held version, and the present one")
	}
}

func TestExampleRefused(t *testing.T) {
	d, f := first(t)
	armed(t, d, api.Arm{On: api.ActSync, Nth: 2})
	if e := commitLeaf(f, "a", "2"); e != api.ErrIO || f.State() != api.ErrState {
		t.Error(e, f.State())
	}
	f = opened(t, d, small())
	if f.Meta().Version != 2 || got(t, f, 2, "a") != "2" {
		t.Error("it was seen, and Open synced it", f.Meta())
	}
}

func TestExampleTaken(t *testing.T) {
	d, f := first(t)
	g := opened(t, d, small())
	if _, e := f.Page(2); f.State() != api.ErrState || e != api.ErrState || g.State() != api.OK {
		t.Error(f.State(), e, g.State())
	}
}

func TestExamplePower(t *testing.T) {
	d, f := first(t)
	if d.Crash() != api.OK || d.Wake() != api.OK || f.State() != api.ErrOff {
		t.Error(f.State())
	}
	if d.Crash() != api.OK {
		t.Fatal("the power is on")
	}
	if f, e := commit.Open(d, small()); e != api.ErrOff || f != nil {
		t.Error(e)
	}
}

func TestExampleOpenWrong(t *testing.T) {
	d, _ := first(t)
	long, most, width := small(), small(), small()
	long.Page, most.Most, width.Width = 2048, 10, 3
	due := map[api.Config]api.Errno{long: api.ErrArg, most: api.ErrArg, width: api.ErrForeign, small(): api.OK}
	for c, want := range due {
		if _, e := commit.Open(d, c); e != want {
			t.Errorf("Open(.., %v): %v", c, e)
		}
	}
}
