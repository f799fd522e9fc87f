package proof_test

import (
	"fmt"
	"maps"
	"math/rand"
	"slices"
	"strings"
	"testing"

	"heartwood/api"
	"heartwood/disk"
	"heartwood/proof"
	"heartwood/store"
	"heartwood/trunk"
)

// life is a store with what is to be in it: what is worked on, and what is committed.
type life struct {
	t         *testing.T
	r         *rand.Rand
	config    api.Config
	disk      *disk.Disk
	store     *store.Store
	work, was map[string]string
}

func newLife(t *testing.T, f api.Frame, seed int64) *life {
	t.Helper()
	c := api.Config{Frame: f, Most: 4000}
	d, e := disk.New(f.Page, c.Most)
	if e != api.OK {
		t.Fatal(e)
	}
	x := &life{t: t, r: rand.New(rand.NewSource(seed)), config: c, disk: d, work: map[string]string{}, was: map[string]string{}}
	x.open()
	return x
}

// open has the disk opened, anew or for the first time.
func (x *life) open() {
	x.t.Helper()
	s, e := store.Open(x.disk, x.config)
	x.well(e)
	x.store, x.work = s, maps.Clone(x.was)
}

func (x *life) well(codes ...api.Errno) {
	x.t.Helper()
	for _, e := range codes {
		if e != api.OK {
			x.t.Fatal(e)
		}
	}
}

// key is a key by chance, of few that are near to one another, so that some are met again.
func (x *life) key() string {
	i := x.r.Intn(150)
	long := strings.Repeat("k", x.config.Page/16-5)
	return long[:len(long)*(i%4)/3] + fmt.Sprintf("%05d", i)
}

// change puts and deletes some keys.
func (x *life) change() {
	x.t.Helper()
	more := x.r.Intn(3) > 0
	for range x.r.Intn(40) {
		key := x.key()
		if more == (x.r.Intn(5) == 0) {
			_, e := x.store.Delete(key)
			x.well(e)
			delete(x.work, key)
			continue
		}
		val := strings.Repeat("v", x.r.Intn(x.config.Page/8)) + fmt.Sprint(x.r.Intn(10))
		x.well(x.store.Put(key, val))
		x.work[key] = val
	}
}

// tree is one of the store's, which is to have this root digest.
func (x *life) tree(get func() (*trunk.Tree, api.Errno)) *trunk.Tree {
	x.t.Helper()
	tree, e := get()
	x.well(e)
	return tree
}

// committed proves keys of the committed tree under the root that is published (P0.6), and asks for what is worked on beside it.
func (x *life) committed() {
	x.t.Helper()
	root, e := x.store.Root()
	x.well(e)
	tree := x.tree(x.store.Committed)
	if tree.Root().Sum != root {
		x.t.Fatalf("%v: the committed tree has another root than the one that is published", x.config)
	}
	isProved(x.t, tree, x.was, picked(x.r, questions(x.t, tree), 20))
	working := x.tree(x.store.Working)
	isProved(x.t, working, x.work, picked(x.r, questions(x.t, working), 5))
	for range 5 {
		key := x.key()
		said := proved(x.t, working, key)
		if holds(x.t, "what is worked on", x.config.Frame, root, key, said) && said != proved(x.t, tree, key) {
			isClash(x.t, x.config.Frame, root, key, said, proved(x.t, tree, key))
		}
	}
}

// Stores that are committed to several times: behind each commit, rollback and opening every key has its proof.
func TestProofsOfStores(t *testing.T) {
	for i, f := range frames() {
		t.Run(fmt.Sprint(f), func(t *testing.T) {
			t.Parallel()
			x := newLife(t, f, int64(155+i))
			x.committed()
			for range 12 {
				x.change()
				switch x.r.Intn(6) {
				case 0:
					x.well(x.store.Rollback())
					x.work = maps.Clone(x.was)
				case 1:
					x.open()
				default:
					x.well(x.store.Commit())
					x.was = maps.Clone(x.work)
				}
				x.committed()
				x.change()
				x.committed()
			}
		})
	}
}

// Versions that are held, each under its own root: an older one's proof is none under a newer root, unless nothing on the way was changed.
func TestProofsOfVersions(t *testing.T) {
	f := api.Frame{Page: 1024, Width: 32}
	x := newLife(t, f, 156)
	type version struct {
		tree  *trunk.Tree
		pairs map[string]string
	}
	var all []version
	for range 8 {
		x.change()
		x.well(x.store.Commit())
		x.was = maps.Clone(x.work)
		v, e := x.store.Hold()
		x.well(e)
		tree, e := x.store.Tree(v)
		x.well(e)
		all = append(all, version{tree, maps.Clone(x.was)})
	}
	roots := map[api.Digest]bool{}
	for _, v := range all {
		isProved(t, v.tree, v.pairs, picked(x.r, questions(t, v.tree), 30))
		roots[v.tree.Root().Sum] = true
		for _, w := range all {
			for range 10 {
				key := x.key()
				said := proved(t, v.tree, key)
				good := holds(t, "another version's proof", f, w.tree.Root().Sum, key, said)
				if good != (v.tree.Root().Sum == w.tree.Root().Sum) {
					t.Errorf("%.20q: the proof of one version is taken under the root of another: %t", key, good)
				}
			}
		}
	}
	if len(roots) < 6 {
		t.Errorf("only %d roots", len(roots))
	}
}

// Two stores of the same pairs that came to be otherwise: where their roots are the same, so is every proof.
func TestOneProofOfOneTree(t *testing.T) {
	for _, f := range sizes() {
		x, y := newLife(t, f, 157), newLife(t, f, 158)
		for range 4 {
			x.change()
			x.well(x.store.Commit())
			x.was = maps.Clone(x.work)
		}
		pairs := slices.Sorted(maps.Keys(x.was))
		for _, key := range pairs {
			y.well(y.store.Put(key, x.was[key]))
		}
		y.well(y.store.Commit())
		// A second disk with the image of the first one, and the first one opened anew.
		d, e := disk.From(f.Page, x.config.Most, x.disk.Image())
		x.well(e)
		z, e := store.Open(d, x.config)
		x.well(e)
		a, b, c := x.tree(x.store.Committed), x.tree(y.store.Committed), x.tree(z.Committed)
		for _, key := range questions(t, a) {
			ours := proved(t, a, key)
			if proved(t, c, key) != ours {
				t.Errorf("%v: %.20q: two proofs of one file", f, key)
			}
			if a.Root().Sum == b.Root().Sum && proved(t, b, key) != ours {
				t.Errorf("%v: %.20q: two proofs under one root", f, key)
			}
			if said, e := proof.Read(f, b.Root().Sum, key, proved(t, b, key)); said.Val != x.was[key] || e != api.OK {
				t.Errorf("%v: %.20q: the other store says %v", f, key, said)
			}
		}
	}
}
