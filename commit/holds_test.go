package commit_test

import (
	"math"
	"slices"
	"testing"

	"heartwood/api"
)

// As many holds as there may be, of one version and of several, and one more.
func TestMaxHolds(t *testing.T) {
	for _, f := range sizes() {
		y := newTrial(t, wide(f))
		y.hold() // version 0
		for i := range 3 {
			y.putAll(i, 5, "a")
			y.hold()
		}
		all := 4
		for ; all < mostHeld; all++ {
			switch all % 3 {
			case 0:
				y.again(uint64(all % 4))
			default:
				y.hold()
			}
		}
		tooMany := func(what string) {
			t.Helper()
			if v, e := y.f.Hold(); v != 0 || e != api.ErrLong {
				t.Errorf("%v: %s: Hold: %d %v", f, what, v, e)
			}
			for v, due := range map[uint64]api.Errno{0: api.ErrLong, 1: api.ErrLong, 3: api.ErrLong, 4: api.ErrGone, newest: api.ErrGone, math.MaxUint64: api.ErrGone} {
				if e := y.f.Again(v); e != due {
					t.Errorf("%v: %s: Again(%d): %v", f, what, v, e)
				}
			}
			y.whole()
		}
		tooMany("1024 holds")
		y.putAll(7, 1, "b") // the present version is not held, and can't be
		tooMany("1024 holds of older versions")
		y.drop(2)
		y.hold()
		if !slices.Equal(y.f.Held(), []uint64{0, 1, 2, 3, 4}) {
			t.Error(y.f.Held())
		}
		y.drop(4)
		y.again(3)
		tooMany("1024 holds once more")
		for _, v := range []uint64{0, 1, 2, 3} {
			for y.held[v] != nil {
				y.drop(v)
			}
			y.drop(v) // it is held no more
			y.whole()
		}
		y.hold()
	}
}

// That there are too many holds is told ahead of the tree's being read.
func TestMaxHoldsFirst(t *testing.T) {
	d, f := first(t)
	for range mostHeld {
		if v, e := f.Hold(); v != 1 || e != api.OK {
			t.Fatal(v, e)
		}
	}
	if commitLeaf(f, "a", "2") != api.OK || d.Write(f.Meta().Root.Page, blank(small().Frame)) != api.OK {
		t.Fatal("a commit")
	}
	if v, e := f.Hold(); v != 0 || e != api.ErrLong {
		t.Error(v, e)
	}
	if f.Drop(1) != api.OK {
		t.Error("Drop")
	}
	if v, e := f.Hold(); v != 0 || e != api.ErrCrc || !slices.Equal(f.Held(), []uint64{1}) {
		t.Error(v, e)
	}
	if f.Again(1) != api.OK || f.Again(1) != api.ErrLong {
		t.Error("a Hold that failed counts")
	}
}

// A version that is held twice, and dropped twice; its pages are kept till then.
func TestHeldTwice(t *testing.T) {
	for _, f := range frames() {
		y := newTrial(t, wide(f))
		y.putAll(0, 20, "a")
		y.hold()
		y.hold()
		y.putAll(0, 20, "b")
		kept := y.f.Kept()
		if len(kept) != len(y.held[1].pages) || len(y.f.Free()) > 0 {
			t.Errorf("%v: Kept %v, Free %v", f, kept, y.f.Free())
		}
		y.drop(1)
		y.whole()
		if !slices.Equal(y.f.Kept(), kept) || !slices.Equal(y.f.Held(), []uint64{1}) {
			t.Errorf("%v: dropped once: Kept %v", f, y.f.Kept())
		}
		y.putAll(0, 20, "c")
		y.drop(1)
		y.drop(1)
		y.whole()
		if tree, e := y.f.Tree(1); e != api.ErrGone || tree != nil || len(y.f.Kept()) > 0 || len(y.f.Held()) > 0 {
			t.Errorf("%v: dropped twice: %v, Kept %v", f, e, y.f.Kept())
		}
		was := y.meta.Pages
		y.putAll(0, 20, "d")
		if y.meta.Pages != was {
			t.Errorf("%v: the pages that were kept are not taken", f)
		}
	}
}

// What trees of held versions answer stays, though they were asked for ahead of later commits; those of versions that are dropped may answer errors, and what is answered is of their root.
func TestHeldTreesStay(t *testing.T) {
	for _, f := range sizes() {
		y := newTrial(t, wide(f))
		vals := "abcdefgh"
		for i := range vals {
			y.putAll(0, 12, vals[i:i+1])
			y.hold()
		}
		present, e := y.f.Tree(8)
		if e != api.OK {
			t.Fatal(e)
		}
		var trees []func(i int) (string, api.Errno)
		for v := range uint64(8) {
			tree, e := y.f.Tree(v + 1)
			if e != api.OK {
				t.Fatal(e)
			}
			trees = append(trees, func(i int) (string, api.Errno) {
				val, _, e := tree.Get(longKey(f, i))
				return val, e
			})
		}
		for n := range 6 {
			y.putAll(n, 9, "z")
			for v, get := range trees {
				if val, e := get(5); e != api.OK || val != longVal(f, vals[v:v+1]) {
					t.Fatalf("%v: version %d behind %d commits: %v", f, v+1, n, e)
				}
			}
		}
		for v := range uint64(8) {
			y.drop(v + 1)
		}
		for n := range 6 {
			y.putAll(n, 9, "xy"[n%2:n%2+1])
		}
		if val, _, e := present.Get(longKey(f, 5)); e == api.OK && f.Width > 7 && val != longVal(f, "h") {
			t.Errorf("%v: a tree that nobody holds: %.9q", f, val)
		}
	}
}

// Commits that change nothing leave one tree to two versions, which are held each by itself.
func TestHeldTwins(t *testing.T) {
	y := newTrial(t, wide(api.Frame{Page: 1024, Width: 9}))
	y.putAll(0, 10, "a")
	y.hold()
	x, pairs := y.begin()
	y.commit(x, pairs, 0)
	y.hold()
	y.putAll(0, 10, "b")
	y.drop(1)
	y.whole()
	if len(y.f.Kept()) == 0 {
		t.Error("the second version's pages are kept yet")
	}
	y.drop(2)
	y.whole()
	if len(y.f.Kept()) > 0 {
		t.Error(y.f.Kept())
	}
}

// Holds are the object's own: whoever opens the disk next has none, and another version 0 is as any other.
func TestHoldsEnd(t *testing.T) {
	y := newTrial(t, wide(api.Frame{Page: 2048, Width: 4}))
	y.hold()
	y.putAll(0, 10, "a")
	y.hold()
	y.putAll(0, 10, "b")
	if y.f.Tree(0); !slices.Equal(y.f.Held(), []uint64{0, 1}) || len(y.f.Kept()) == 0 {
		t.Error(y.f.Held(), y.f.Kept())
	}
	y.reopen()
	if len(y.f.Held())+len(y.f.Kept()) > 0 || y.f.Again(1) != api.ErrGone || y.f.Drop(0) != api.ErrGone {
		t.Error(y.f.Held(), y.f.Kept())
	}
}

// Pages that are held are not taken, though there is no other room: then a commit is refused; and it is not, where they were dropped.
func TestHeldFull(t *testing.T) {
	for _, f := range sizes() {
		for most := 8; most < 20; most++ {
			y := newTrial(t, api.Config{Frame: f, Most: most})
			for n := 0; ; n++ {
				x, pairs := y.begin()
				put(t, x, pairs, "a", string(rune('a'+n)))
				if _, _, e := y.due(x, pairs, y.meta.Version+1); e == api.OK {
					y.commit(x, pairs, 0)
					y.hold()
					continue
				}
				if n < 4 || len(y.held) != n {
					t.Fatal(n, y.meta)
				}
				if most%2 == 0 {
					y.full(x)
					break
				}
				y.drop(1)
				y.drop(2)
				y.commit(x, pairs, 0)
				break
			}
		}
	}
}
