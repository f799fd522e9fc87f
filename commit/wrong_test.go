package commit_test

import (
	"fmt"
	"math"
	"slices"
	"strings"
	"testing"

	"heartwood/api"
	"heartwood/growth"
)

// A change of another tree, in each field of its Base, changes nothing, under whatever version; and the Base is looked at ahead of the version.
func TestOtherBase(t *testing.T) {
	for _, f := range frames() {
		y := newTrial(t, wide(f))
		alter := map[string]func(r *api.Root){
			"Page":           func(r *api.Root) { r.Page++ },
			"the Sum":        func(r *api.Root) { r.Sum[0]++ },
			"the Sum's last": func(r *api.Root) { r.Sum[31] ^= 128 },
			"Count":          func(r *api.Root) { r.Count++ },
			"Version":        func(r *api.Root) { r.Version++ },
			"all":            func(r *api.Root) { *r = api.Root{Page: math.MaxUint32, Count: math.MaxUint64, Version: math.MaxUint64} },
		}
		for n := range 3 {
			for what, do := range alter {
				c := leafChange(f, y.meta.Root, api.Pair{Key: "a", Val: "b"})
				do(&c.base)
				codes := []api.Errno{y.f.Commit(c)}
				for _, v := range []uint64{0, y.meta.Version, y.meta.Version + 1, newest, newest + 1, math.MaxUint64} {
					codes = append(codes, y.f.CommitAs(c, v))
				}
				for i, e := range codes {
					if e != api.ErrOther || c.laid > 0 {
						t.Errorf("%v: version %d, %s: %d: %v", f, n, what, i, e)
					}
				}
			}
			y.whole()
			y.putAll(0, 1, "abc"[n:n+1])
		}
	}
}

// A root that comes again has another Version: an Edit that began with it is one of another tree.
func TestRootAgain(t *testing.T) {
	y := newTrial(t, wide(api.Frame{Page: 1024, Width: 1}))
	y.putAll(0, 1, "a")
	old, _ := y.begin()
	old.Put("b", "2")
	root := y.meta.Root
	y.putAll(0, 1, "b")
	y.putAll(0, 1, "a")
	for range 4 {
		if y.meta.Root.Page == root.Page && y.meta.Root.Sum == root.Sum {
			break
		}
		y.putAll(0, 1, "b")
		y.putAll(0, 1, "a")
	}
	if y.meta.Root.Page != root.Page || y.meta.Root.Sum != root.Sum || y.meta.Root.Count != root.Count {
		t.Fatal("the root has not come again", root, y.meta.Root)
	}
	if e := y.f.Commit(old); e != api.ErrOther {
		t.Error(e)
	}
	y.whole()
}

// wrong is a change of a caller's own making that is wrong: in what, what is answered, and which acts were done then.
type wrong struct {
	what string
	c    *change
	e    api.Errno
	acts api.Acts // what was done of the commit, a Grow aside
}

// wrongsFor are wrong changes of a file whose tree is one leaf, and which has a list with a free page.
func wrongsFor(f api.Frame, y *trial) []wrong {
	base := y.meta.Root
	fresh := func(alter func(c *change)) *change {
		c := leafChange(f, base, api.Pair{Key: "a", Val: "w"})
		alter(c)
		return c
	}
	freed := func(numbers ...uint32) *change { return fresh(func(c *change) { c.freed = numbers }) }
	lays := func(alter func(p *api.Page, r *api.Root)) *change {
		return fresh(func(c *change) {
			right := c.lay
			c.lay = func(version uint64, at []uint32) ([]api.Page, api.Root, api.Errno) {
				pages, root, e := right(version, at)
				alter(&pages[0], &root)
				return pages, root, e
			}
		})
	}
	fails := func(e api.Errno) *change {
		return fresh(func(c *change) {
			right := c.lay
			c.lay = func(version uint64, at []uint32) ([]api.Page, api.Root, api.Errno) {
				pages, root, _ := right(version, at)
				return pages, root, e
			}
		})
	}
	none := api.Acts{}
	record := api.Acts{Writes: 2, Syncs: 1} // the leaf and the list were written and synced
	l := []wrong{
		{"a slot is freed", freed(0), api.ErrOther, none},
		{"the other slot is freed", freed(base.Page, 1), api.ErrOther, none},
		{"a page beyond the count is freed", freed(y.meta.Pages), api.ErrOther, none},
		{"a page far beyond is freed", freed(base.Page, math.MaxUint32), api.ErrOther, none},
		{"a page is freed twice", freed(base.Page, base.Page), api.ErrOther, none},
		{"a page of the chain is freed", freed(y.f.Lists()...), api.ErrOther, none},
		{"a free page is freed", freed(y.f.Free()...), api.ErrOther, none},
		{"fewer than none are changed", fresh(func(c *change) { c.changed = -1 }), api.ErrOther, none},
		{"far fewer", fresh(func(c *change) { c.changed = math.MinInt }), api.ErrOther, none},
		{"more are changed than there is room for", fresh(func(c *change) { c.changed = y.c.Most }), api.ErrFull, none},
		{"far more", fresh(func(c *change) { c.changed = math.MaxInt }), api.ErrFull, none},
		{"too many, and wrong ones freed", fresh(func(c *change) { c.changed, c.freed = math.MaxInt, []uint32{0} }), api.ErrOther, none},
		{"a page of no kind", lays(func(p *api.Page, _ *api.Root) { p.Kind = 0 }), api.ErrKind, none},
		{"a page of a kind that there isn't", lays(func(p *api.Page, _ *api.Root) { p.Kind = 4 }), api.ErrKind, none},
		{"a page on a slot", lays(func(p *api.Page, _ *api.Root) { p.No = 1 }), api.ErrArg, none},
		{"a page on a number of a dirty node", lays(func(p *api.Page, _ *api.Root) { p.No = 1 << 31 }), api.ErrArg, none},
		{"a page of no version", lays(func(p *api.Page, _ *api.Root) { p.Version = 0 }), api.ErrArg, none},
		{"a page of a version too great", lays(func(p *api.Page, _ *api.Root) { p.Version = newest + 1 }), api.ErrArg, none},
		{"a body that is too long", lays(func(p *api.Page, _ *api.Root) { p.Body = strings.Repeat("x", f.Page-31) }), api.ErrLong, none},
		{"a page beyond the disk", lays(func(p *api.Page, _ *api.Root) { p.No = 60000 }), api.ErrPage, none},
		{"a root on a slot", lays(func(_ *api.Page, r *api.Root) { r.Page = 1 }), api.ErrArg, record},
		{"a root beyond the count", lays(func(_ *api.Page, r *api.Root) { r.Page = 60000 }), api.ErrArg, record},
		{"a root of no pairs", lays(func(_ *api.Page, r *api.Root) { r.Count = 0 }), api.ErrArg, record},
		{"a root of no page", lays(func(_ *api.Page, r *api.Root) { r.Page = 0 }), api.ErrArg, record},
		{"a root of a version to come", lays(func(_ *api.Page, r *api.Root) { r.Version++ }), api.ErrArg, record},
	}
	for _, e := range []api.Errno{api.ErrNil, api.ErrArg, api.ErrState, api.ErrFull, api.ErrIO, api.ErrOff, api.ErrBad, api.ErrGone, 4711, -1} {
		l = append(l, wrong{"Lay answers " + e.Error(), fails(e), e, none})
	}
	if f.Width < 32 {
		l = append(l, wrong{"a digest that does not fit", lays(func(_ *api.Page, r *api.Root) { r.Sum[31] = 1 }), api.ErrArg, record})
	}
	return l
}

// Changes of a caller's own making that are wrong give the file up, with the error of the step that met it; and the disk, opened again, is where it was.
func TestWrongChanges(t *testing.T) {
	for _, f := range []api.Frame{{Page: 1024, Width: 32}, {Page: 2048, Width: 1}, {Page: 4096, Width: 7}, {Page: 8192, Width: 31}} {
		c := api.Config{Frame: f, Most: 12}
		for i := 0; ; i++ {
			y := quickTrial(t, c)
			for _, by := range []string{"a", "b", "c", "d"} {
				y.putAll(0, 1, by)
			}
			wrongs := wrongsFor(f, y)
			if i == len(wrongs) {
				break
			}
			w := wrongs[i]
			was, grown := y.d.Acts(), y.d.Size()
			if e := y.f.Commit(w.c); e != w.e {
				t.Errorf("%v: %s: %v, and not %v", f, w.what, e, w.e)
			}
			n := since(was, y.d.Acts())
			if n.Grows = 0; n != w.acts || w.c.laid == 0 && y.d.Size() != grown {
				t.Errorf("%v: %s: %+v, and not %+v", f, w.what, n, w.acts)
			}
			y.gone()
			y.f = opened(t, y.d, c)
			y.stands()
			y.putAll(0, 2, "e")
		}
	}
}

// What is wrong with the second of two pages is met when the first is written.
func TestWrongSecondPage(t *testing.T) {
	y := quickTrial(t, small())
	c := &change{base: y.meta.Root, changed: 2}
	c.lay = func(version uint64, at []uint32) ([]api.Page, api.Root, api.Errno) {
		pages := []api.Page{{Kind: api.PageLeaf, No: at[0], Version: version, Body: "x"}, {Kind: 9, No: at[1], Version: version}}
		return pages, api.Root{Page: at[0], Count: 1, Version: version}, api.OK
	}
	if e := y.f.CommitAs(c, 5); e != api.ErrKind || y.d.Acts() != (api.Acts{Writes: 1, Grows: 1, Syncs: 1}) {
		t.Error(e, y.d.Acts())
	}
	if w := y.d.Waits(); !slices.Equal(w, []api.Waiting{{Act: api.ActGrow, Pages: 4}, {Act: api.ActWrite, Page: 2}}) || c.version != 5 || !slices.Equal(c.at, []uint32{2, 3}) {
		t.Error(w, c.version, c.at)
	}
	y.gone()
}

// A nil change, of all files; an Edit that is nil is no nil change, but one of another tree.
func TestNoChange(t *testing.T) {
	y := newTrial(t, small())
	y.putAll(0, 1, "a")
	var none *growth.Edit
	for _, v := range []uint64{0, 1, 2, newest, newest + 1, math.MaxUint64} {
		if y.f.CommitAs(nil, v) != api.ErrNil || y.f.CommitAs(none, v) != api.ErrOther || y.f.CommitAs(&growth.Edit{}, v) != api.ErrOther {
			t.Error("no change as", v)
		}
	}
	if y.f.Commit(nil) != api.ErrNil || y.f.Commit(none) != api.ErrOther {
		t.Error("no change")
	}
	y.whole()
}

// What a change is handed and what it tells is not kept, and what it hands out is not changed.
func TestChangeOwnMemory(t *testing.T) {
	for _, f := range sizes() {
		y := newTrial(t, wide(f))
		y.putAll(0, 1, "a")
		for i := range 6 {
			c := leafChange(f, y.meta.Root, api.Pair{Key: "a", Val: fmt.Sprint(i)})
			room := append(slices.Clone(c.freed), 70, 71, 72)
			c.freed = room[:1]
			y.commit(c, map[string]string{"a": fmt.Sprint(i)}, 0)
			if room[0] != c.base.Page || !slices.Equal(room[1:], []uint32{70, 71, 72}) || c.version != y.meta.Version {
				t.Fatalf("%v: Freed is written into: %v", f, room)
			}
			scribble(nil, room, c.at)
			clear(c.pages[:cap(c.pages)])
			y.whole()
		}
		y.reopen()
	}
}

// An Edit is not changed by its commit: it may be committed to another file, and is refused by its own.
func TestEditStays(t *testing.T) {
	for _, f := range sizes() {
		y, z := newTrial(t, wide(f)), newTrial(t, wide(f))
		x, pairs := y.begin()
		for i := range 30 {
			put(t, x, pairs, longKey(f, i), longVal(f, "a"))
		}
		root, changed := x.Root(), x.Changed()
		y.commit(x, pairs, 0)
		if x.Root() != root || x.Changed() != changed || x.Base() != emptyRoot(f) || len(x.Freed()) > 0 {
			t.Errorf("%v: the Edit is another one", f)
		}
		if e := y.f.Commit(x); e != api.ErrOther {
			t.Errorf("%v: a second time: %v", f, e)
		}
		z.commit(x, pairs, 0)
		if !slices.Equal(y.image, z.image) || y.meta != z.meta {
			t.Errorf("%v: two files", f)
		}
	}
}
