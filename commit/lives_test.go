package commit_test

import (
	"fmt"
	"maps"
	"math/rand"
	"slices"
	"testing"

	"heartwood/api"
	"heartwood/commit"
)

// Ordinary lives of a file: edits of one leaf and of several levels, versions left out, versions held and dropped, openings; each held against the plain map and against each byte that is due.
func TestLives(t *testing.T) {
	for i, f := range frames() {
		t.Run(fmt.Sprint(f), func(t *testing.T) {
			t.Parallel()
			for round := range 3 {
				r := rand.New(rand.NewSource(int64(100*i + round)))
				live(newTrial(t, wide(f)), r, 40, round != 1)
			}
		})
	}
}

// live makes so many commits by chance, with holds between them or without.
func live(y *trial, r *rand.Rand, commits int, holding bool) {
	y.t.Helper()
	for n := range commits {
		x, pairs := y.begin()
		many, more := r.Intn(6), 7
		switch {
		case n%9 == 4:
			many = 40 // several levels at once
		case n%13 == 11:
			more = 0
			many = 60
		}
		stir(y.t, r, y.c.Frame, x, pairs, many, more)
		if n == commits/2 {
			for _, k := range slices.Sorted(maps.Keys(pairs)) {
				remove(y.t, x, pairs, k)
			}
		}
		version := uint64(0)
		if r.Intn(4) == 0 {
			version = y.meta.Version + 1 + uint64(r.Intn(1000))
		}
		y.commit(x, pairs, version)
		if holding {
			y.someHolds(r)
		}
		if r.Intn(12) == 0 {
			y.reopen()
		}
	}
}

// someHolds holds, holds again and drops by chance.
func (y *trial) someHolds(r *rand.Rand) {
	y.t.Helper()
	for r.Intn(2) == 0 {
		versions := slices.Sorted(maps.Keys(y.held))
		some := y.meta.Version - uint64(r.Intn(3))
		if len(versions) > 0 && r.Intn(4) > 0 {
			some = versions[r.Intn(len(versions))]
		}
		switch r.Intn(4) {
		case 0, 1:
			y.hold()
		case 2:
			y.again(some)
		case 3:
			y.drop(some)
		}
		y.whole()
	}
	for len(y.held) > 5 {
		y.drop(slices.Min(slices.Collect(maps.Keys(y.held))))
	}
}

// A list of many pages: a tree of more pages than a list page has numbers is emptied, and grows again.
func TestLongLists(t *testing.T) {
	t.Parallel()
	f := api.Frame{Page: 1024, Width: 4}
	y := newTrial(t, wide(f))
	y.putAll(0, 1800, "a")
	if y.meta.Pages < 500 {
		t.Fatal("a small tree", y.meta.Pages)
	}
	y.hold()
	x, pairs := y.begin()
	for _, k := range slices.Sorted(maps.Keys(pairs)) {
		remove(t, x, pairs, k)
	}
	y.commit(x, pairs, 0)
	if len(y.chain) < 2 || len(y.f.Kept()) < 500 || y.meta.Root != emptyRoot(f) {
		t.Fatal(y.f.Lists())
	}
	y.putAll(0, 30, "b")
	y.drop(1)
	y.whole()
	for i := range 4 {
		y.putAll(20*i, 100, "c")
	}
	y.reopen()
	y.putAll(0, 900, "d")
	y.reopen()
}

// Two files that live by the same calls have the same bytes, whatever else there is: what a commit does hangs on nothing else.
func TestAlike(t *testing.T) {
	for _, f := range sizes() {
		var images [][]string
		for range 2 {
			y := newTrial(t, wide(f))
			live(y, rand.New(rand.NewSource(5)), 25, true)
			images = append(images, y.image)
		}
		if !slices.Equal(images[0], images[1]) {
			t.Errorf("%v: two unlike images", f)
		}
	}
}

// The commit that comes first, the second, one that changes nothing, and one that empties the tree.
func TestEdgesOfALife(t *testing.T) {
	for _, f := range frames() {
		y := newTrial(t, wide(f))
		x, pairs := y.begin()
		y.commit(x, pairs, 0) // nothing is changed, and there is nothing yet
		if y.meta != (api.Meta{Version: 1, Root: emptyRoot(f), Pages: 2}) || len(y.image) != 2 || y.image[1] != blank(f) {
			t.Errorf("%v: %+v", f, y.meta)
		}
		y.commit(x, pairs, 0) // its Base is the empty root, as the present one is
		if y.meta.Version != 2 || y.image[0] == y.image[1] {
			t.Errorf("%v: %+v", f, y.meta)
		}
		y.putAll(0, 1, "a")
		y.putAll(1, 40, "b")
		root := y.meta.Root
		if root.Version != 4 || root.Count != 41 {
			t.Errorf("%v: %+v", f, root)
		}
		x, pairs = y.begin()
		y.commit(x, pairs, 0)
		if y.meta.Version != 5 || y.meta.Root != root {
			t.Errorf("%v: a commit that changes nothing: %+v", f, y.meta)
		}
		x, pairs = y.begin()
		for _, k := range slices.Sorted(maps.Keys(pairs)) {
			remove(t, x, pairs, k)
		}
		y.commit(x, pairs, 0)
		if y.meta.Root != emptyRoot(f) || len(y.tree()) != 0 {
			t.Errorf("%v: an empty tree: %+v", f, y.meta)
		}
		y.reopen()
		y.putAll(0, 3, "c")
		y.reopen()
	}
}

// Versions that are left out, up to the greatest one, and none beyond.
func TestVersions(t *testing.T) {
	for _, f := range sizes() {
		y := newTrial(t, wide(f))
		for _, v := range []uint64{1, 2, 7, 70, 71, 1 << 20, 1<<32 - 1, 1 << 32, newest - 1} {
			x, pairs := y.begin()
			put(t, x, pairs, "a", fmt.Sprint(v))
			for _, wrong := range []uint64{0, y.meta.Version, y.meta.Version - 1, newest + 1, 1 << 63, 1<<64 - 1} {
				if y.f.CommitAs(x, wrong) != api.ErrArg {
					t.Errorf("%v: CommitAs(%d) at %d", f, wrong, y.meta.Version)
				}
			}
			y.whole()
			y.commit(x, pairs, v)
			if v == 7 {
				y.hold()
			}
		}
		x, pairs := y.begin()
		put(t, x, pairs, "b", "")
		y.commit(x, pairs, 0)
		if y.meta.Version != newest {
			t.Fatal(y.meta)
		}
		y.beyond(f)
	}
}

// beyond is at the greatest version: nothing can be committed any more, and only a Commit of a right change gives the file up.
func (y *trial) beyond(f api.Frame) {
	y.t.Helper()
	x, pairs := y.begin()
	put(y.t, x, pairs, "c", "")
	stranger := leafChange(f, emptyRoot(f), api.Pair{Key: "a"})
	for _, v := range []uint64{0, newest, newest + 1, 1<<64 - 1} {
		if y.f.CommitAs(x, v) != api.ErrArg || y.f.CommitAs(stranger, v) != api.ErrOther || y.f.CommitAs(nil, v) != api.ErrNil {
			y.t.Errorf("%v: CommitAs(%d)", f, v)
		}
	}
	if y.f.Commit(stranger) != api.ErrOther || y.f.Commit(nil) != api.ErrNil {
		y.t.Errorf("%v: Commit of another tree's, and of none", f)
	}
	y.whole()
	was := y.d.Acts()
	if e := y.f.Commit(x); e != api.ErrFull || y.f.State() != api.ErrState || y.d.Acts() != was || y.f.Meta() != y.meta {
		y.t.Errorf("%v: Commit beyond the greatest version: %v, State %v", f, e, y.f.State())
	}
	y.told()
	if y.f.Commit(x) != api.ErrState || y.f.CommitAs(x, 1) != api.ErrState || y.f.Commit(nil) != api.ErrNil {
		y.t.Errorf("%v: given up", f)
	}
	y.reopen()
}

// Most is reached, and passed by one page: the disk could grow further, and isn't asked to.
func TestMost(t *testing.T) {
	for _, f := range sizes() {
		for most := 8; most < 14; most++ {
			y := newTrial(t, api.Config{Frame: f, Most: most})
			last := 0
			for n := 1; ; n++ {
				x, pairs := y.begin()
				for i := range 3 * n {
					put(t, x, pairs, longKey(f, i), longVal(f, "abcdefghij"[n:n+1]))
				}
				if _, _, e := y.due(x, pairs, y.meta.Version+1); e == api.ErrFull {
					y.full(x)
					break
				}
				y.commit(x, pairs, 0)
				last = int(y.meta.Pages)
			}
			if last < 4 {
				t.Errorf("%v: %d pages of %d", f, last, most)
			}
		}
		for most := 8; most < 14; most++ {
			y := newTrial(t, api.Config{Frame: f, Most: most})
			x, pairs := y.begin()
			i := 0
			for ; x.Changed()+2 < most; i++ {
				put(t, x, pairs, longKey(f, i), longVal(f, "a"))
			}
			y.commit(x, pairs, 0)
			if int(y.meta.Pages) != most {
				t.Fatalf("%v: %d pages of %d", f, y.meta.Pages, most)
			}
			y.reopen()
			one, _ := y.begin()
			one.Delete(longKey(f, 0))
			y.full(one)
		}
		y := newTrial(t, api.Config{Frame: f, Most: 8})
		x, pairs := y.begin()
		for i := 0; x.Changed()+2 < 9; i++ {
			put(t, x, pairs, longKey(f, i), longVal(f, "a"))
		}
		if x.Changed() != 7 {
			t.Fatalf("%v: %d nodes", f, x.Changed())
		}
		y.full(x)
	}
}

// full commits what does not fit within Most: no act is done, and the file is given up.
func (y *trial) full(x commit.Change) {
	y.t.Helper()
	was := y.d.Acts()
	if e := y.f.Commit(x); e != api.ErrFull || y.f.State() != api.ErrState || y.d.Acts() != was || y.f.Meta() != y.meta {
		y.t.Fatalf("%v: more pages than Most: %v, State %v", y.c, e, y.f.State())
	}
	y.told()
	y.reopen()
}

// As many pages as there may be at all.
func TestMaxPages(t *testing.T) {
	t.Parallel()
	c := api.Config{Frame: api.Frame{Page: 1024, Width: 8}, Most: 65536}
	d := newDisk(t, 1024, 65536)
	f := opened(t, d, c)
	all := &change{base: emptyRoot(c.Frame), changed: 65534}
	all.lay = func(version uint64, at []uint32) ([]api.Page, api.Root, api.Errno) {
		var l []api.Page
		for _, no := range at {
			l = append(l, api.Page{Kind: api.PageLeaf, No: no, Version: version})
		}
		return l, api.Root{Page: 2, Count: 1, Version: version}, api.OK
	}
	if e := f.Commit(all); e != api.OK || f.Meta().Pages != 65536 || d.Size() != 65536 {
		t.Fatal(e, f.Meta())
	}
	f = opened(t, d, c)
	one := leafChange(c.Frame, f.Meta().Root, api.Pair{Key: "a"})
	if e := f.Commit(one); e != api.ErrFull || f.State() != api.ErrState {
		t.Error(e)
	}
	if f, e := commit.Open(d, api.Config{Frame: c.Frame, Most: 65535}); e != api.ErrArg || f != nil {
		t.Error(e)
	}
}
