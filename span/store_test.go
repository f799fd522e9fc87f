package span_test

import (
	"fmt"
	"maps"
	"math/rand"
	"strings"
	"testing"

	"heartwood/api"
	"heartwood/disk"
	"heartwood/store"
	"heartwood/trunk"
)

// life is a store with what is to be in it: what is worked on, and what is committed.
type life struct {
	t         *testing.T
	r         *rand.Rand
	config    api.Config
	disk      *disk.Disk
	store     *store.Store
	work, was map[string]string
}

func newLife(t *testing.T, f api.Frame, seed int64) *life {
	t.Helper()
	c := api.Config{Frame: f, Most: 4000}
	d, e := disk.New(f.Page, c.Most)
	if e != api.OK {
		t.Fatal(e)
	}
	x := &life{t: t, r: rand.New(rand.NewSource(seed)), config: c, disk: d, work: map[string]string{}, was: map[string]string{}}
	x.open()
	return x
}

// open has the disk opened, anew or for the first time.
func (x *life) open() {
	x.t.Helper()
	s, e := store.Open(x.disk, x.config)
	x.well(e)
	x.store, x.work = s, maps.Clone(x.was)
}

func (x *life) well(codes ...api.Errno) {
	x.t.Helper()
	for _, e := range codes {
		if e != api.OK {
			x.t.Fatal(e)
		}
	}
}

// key is a key by chance, of few that are near to one another, so that some are met again.
func (x *life) key() string {
	i := x.r.Intn(150)
	long := strings.Repeat("k", x.config.Page/16-5)
	return long[:len(long)*(i%4)/3] + fmt.Sprintf("%05d", i)
}

// change puts and deletes some keys.
func (x *life) change() {
	x.t.Helper()
	more := x.r.Intn(3) > 0
	for range x.r.Intn(40) {
		key := x.key()
		if more == (x.r.Intn(5) == 0) {
			_, e := x.store.Delete(key)
			x.well(e)
			delete(x.work, key)
			continue
		}
		val := strings.Repeat("v", x.r.Intn(x.config.Page/8)) + fmt.Sprint(x.r.Intn(10))
		x.well(x.store.Put(key, val))
		x.work[key] = val
	}
}

// tree is one of the store's.
func (x *life) tree(get func() (*trunk.Tree, api.Errno)) *trunk.Tree {
	x.t.Helper()
	tree, e := get()
	x.well(e)
	return tree
}

// ranges are some by chance of a tree.
func (x *life) ranges(tree *trunk.Tree, many int) []keyRange {
	x.t.Helper()
	return someRanges(x.r, ends(x.config.Frame, walked(x.t, tree)), many)
}

// committed proves ranges of the committed tree under the root that is published (P0.6), and asks for what is worked on beside it.
func (x *life) committed() {
	x.t.Helper()
	root, e := x.store.Root()
	x.well(e)
	tree := x.tree(x.store.Committed)
	if tree.Root().Sum != root {
		x.t.Fatalf("%v: the committed tree has another root than the one that is published", x.config)
	}
	isProved(x.t, tree, sorted(x.was), x.ranges(tree, 8))
	working := x.tree(x.store.Working)
	ranges := x.ranges(working, 4)
	isProved(x.t, working, sorted(x.work), ranges)
	for _, r := range ranges {
		said := proved(x.t, working, r)
		if holds(x.t, "what is worked on", x.config.Frame, root, r, said) && said != proved(x.t, tree, r) {
			isClash(x.t, x.config.Frame, root, said, proved(x.t, tree, r))
		}
	}
}

// Stores that are committed to several times: behind each commit, rollback and opening every range has its proof.
func TestProofsOfStores(t *testing.T) {
	for i, f := range frames() {
		t.Run(fmt.Sprint(f), func(t *testing.T) {
			t.Parallel()
			x := newLife(t, f, int64(167+i))
			x.committed()
			for range 10 {
				x.change()
				switch x.r.Intn(6) {
				case 0:
					x.well(x.store.Rollback())
					x.work = maps.Clone(x.was)
				case 1:
					x.open()
				default:
					x.well(x.store.Commit())
					x.was = maps.Clone(x.work)
				}
				x.committed()
				x.change()
				x.committed()
			}
		})
	}
}

// Versions that are held, each under its own root: an older one's proof is none under a newer root.
func TestProofsOfVersions(t *testing.T) {
	f := api.Frame{Page: 1024, Width: 32}
	x := newLife(t, f, 168)
	type version struct {
		tree  *trunk.Tree
		pairs []api.Pair
	}
	var all []version
	for range 8 {
		x.change()
		x.well(x.store.Commit())
		x.was = maps.Clone(x.work)
		v, e := x.store.Hold()
		x.well(e)
		tree, e := x.store.Tree(v)
		x.well(e)
		all = append(all, version{tree, sorted(x.was)})
	}
	roots := map[api.Digest]bool{}
	for _, v := range all {
		ranges := x.ranges(v.tree, 20)
		isProved(t, v.tree, v.pairs, ranges)
		roots[v.tree.Root().Sum] = true
		for _, w := range all {
			for _, r := range ranges[:8] {
				good := holds(t, "another version's proof", f, w.tree.Root().Sum, r, proved(t, v.tree, r))
				if good != (v.tree.Root().Sum == w.tree.Root().Sum) {
					t.Errorf("%.20q: the proof of one version is taken under the root of another: %t", r, good)
				}
			}
		}
	}
	if len(roots) < 6 {
		t.Errorf("only %d roots", len(roots))
	}
}

// A file on a second disk with the image of the first one: it has the same proofs.
func TestOneProofOfOneTree(t *testing.T) {
	for _, f := range sizes() {
		x := newLife(t, f, 169)
		for range 4 {
			x.change()
			x.well(x.store.Commit())
			x.was = maps.Clone(x.work)
		}
		d, e := disk.From(f.Page, x.config.Most, x.disk.Image())
		x.well(e)
		z, e := store.Open(d, x.config)
		x.well(e)
		a, b := x.tree(x.store.Committed), x.tree(z.Committed)
		for _, r := range x.ranges(a, 60) {
			if proved(t, a, r) != proved(t, b, r) {
				t.Errorf("%v: %.20q: two proofs of one file", f, r)
			}
		}
	}
}
