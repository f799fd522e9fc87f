package store_test

import (
	"fmt"
	"maps"
	"math/rand"
	"slices"
	"strings"
	"testing"

	"heartwood/api"
	"heartwood/disk"
	"heartwood/store"
)

// someOp is something that a store may be asked, by chance: of keys that are there as often as of others, and now and then with what may not be.
func (y *trial) someOp(r *rand.Rand, keys int) api.Op {
	f := y.c.Frame
	k := key(f, r.Intn(keys))
	if there := slices.Sorted(maps.Keys(y.worked)); len(there) > 0 && r.Intn(2) == 0 {
		k = there[r.Intn(len(there))]
	}
	switch n := r.Intn(100); {
	case n < 40:
		return api.Op{Kind: api.OpPut, Key: k, Val: strings.Repeat(string(rune('a'+r.Intn(26))), r.Intn(f.Page/8+1))}
	case n < 42:
		return api.Op{Kind: api.OpPut, Key: k, Val: y.worked[k]}
	case n < 62:
		return api.Op{Kind: api.OpDelete, Key: k}
	case n < 76:
		return api.Op{Kind: api.OpGet, Key: k}
	case n < 84:
		return api.Op{Kind: api.OpScan, Key: someEnd(r, f, keys), Val: someEnd(r, f, keys), Limit: r.Intn(9)}
	case n < 90:
		return api.Op{Kind: api.OpCommit}
	case n < 93:
		return api.Op{Kind: api.OpRollback}
	case n < 95:
		return api.Op{Kind: api.OpRoot}
	case n < 97:
		return api.Op{Kind: api.OpVersion}
	}
	wrongs := []api.Op{
		{}, {Kind: api.OpKind(9 + r.Intn(247)), Key: k},
		{Kind: api.OpPut, Val: "v"}, {Kind: api.OpPut, Key: k, Val: strings.Repeat("v", f.Page/8+1)}, {Kind: api.OpPut, Key: strings.Repeat("k", f.Page/16+1)},
		{Kind: api.OpDelete}, {Kind: api.OpDelete, Key: strings.Repeat("0", f.Page/16+1)},
		{Kind: api.OpGet}, {Kind: api.OpGet, Key: strings.Repeat("0", f.Page)},
		{Kind: api.OpScan, Limit: -1 - r.Intn(9)},
	}
	return wrongs[r.Intn(len(wrongs))]
}

// someEnd is an end of a range by chance: none, a key, a piece of one, one that is too long to be a key.
func someEnd(r *rand.Rand, f api.Frame, keys int) string {
	k := key(f, r.Intn(keys))
	return []string{"", k, k[:r.Intn(len(k))], k + strings.Repeat("k", f.Page/16)}[r.Intn(4)]
}

// Ordinary lives of a store, held against a plain sorted map that has a committed copy.
func TestLives(t *testing.T) {
	for i, f := range frames() {
		for round, keys := range []int{3, 40, 300} {
			t.Run(fmt.Sprint(f, keys), func(t *testing.T) {
				t.Parallel()
				r := rand.New(rand.NewSource(int64(10*i + round)))
				y := newTrial(t, wide(f))
				for n := range 500 {
					y.ask(y.someOp(r, keys))
					if r.Intn(60) == 0 {
						y.reopen()
					}
					if n%50 == 49 {
						y.whole()
					}
				}
				if y.version < 10 {
					t.Error("few commits", y.version)
				}
			})
		}
	}
}

// Some hundreds of pairs: put, committed, scanned, deleted again one by one.
func TestHundreds(t *testing.T) {
	for _, f := range sizes() {
		t.Run(fmt.Sprint(f), func(t *testing.T) {
			t.Parallel()
			y := newTrial(t, wide(f))
			for i := range 400 {
				y.put(key(f, i), longVal(f, "a"))
			}
			y.whole()
			y.commit()
			y.whole()
			if tree, _ := y.s.Committed(); len(y.committed) != 400 || tree.Root().Count != 400 {
				t.Fatal(tree.Root())
			}
			for _, limit := range []int{0, 1, 7, 399, 400, 401, 1 << 62} {
				y.ask(api.Op{Kind: api.OpScan, Limit: limit})
				y.ask(api.Op{Kind: api.OpScan, Key: key(f, 9), Val: key(f, 200), Limit: limit})
			}
			for i := range 300 {
				y.remove(key(f, i))
			}
			y.whole()
			y.rollback()
			y.whole()
			for i := range 400 {
				y.remove(key(f, (7*i)%400))
				if i%100 == 99 {
					y.commit()
					y.whole()
				}
			}
			if root, _ := y.s.Root(); len(y.committed) > 0 || root != emptySum(f) {
				t.Error("not all is gone")
			}
			y.reopen()
			y.whole()
		})
	}
}

// A script of some lines, asked at once by Does of a new store: what each Op is answered.
func TestDoesScript(t *testing.T) {
	t.Parallel()
	for i, f := range frames() {
		r := rand.New(rand.NewSource(int64(i)))
		y := newTrial(t, wide(f))
		m := newModel(f)
		var ops []api.Op
		var due []api.Reply
		for range 300 {
			o := y.someOp(r, 30)
			if o.Kind != api.OpRoot {
				ops = append(ops, o)
				due = append(due, m.does(o))
				y.ask(o)
			}
		}
		d := newDisk(t, f.Page, 5000)
		l := opened(t, d, y.c).Does(ops...)
		if len(l) != len(ops) || !slices.EqualFunc(l, due, same) {
			t.Errorf("%v: Does of %d Ops answers %d", f, len(ops), len(l))
		}
		if !slices.Equal(d.Image(), y.d.Image()) {
			t.Errorf("%v: Does of all, and of each by itself, leave unlike images", f)
		}
	}
}

// Root is the same at two times between which there was no Commit that went well, also behind an opening.
func TestRootStays(t *testing.T) {
	for _, f := range frames() {
		y := newTrial(t, wide(f))
		r := rand.New(rand.NewSource(8))
		root := func() api.Digest {
			sum, e := y.s.Root()
			well(t, e)
			return sum
		}
		was := root()
		if was != emptySum(f) {
			t.Errorf("%v: the root of a new file", f)
		}
		for n := range 200 {
			o := y.someOp(r, 30)
			y.ask(o)
			if o.Kind == api.OpCommit {
				was = root()
			}
			if n%40 == 39 {
				y.reopen()
			}
			if root() != was {
				t.Fatalf("%v: behind %+v the root is another one", f, o)
			}
		}
	}
}

// putAll puts pairs to a store, in the order of places, and commits behind each so many.
func putAll(t *testing.T, s *store.Store, f api.Frame, places []int, each int) {
	t.Helper()
	for n, i := range places {
		well(t, s.Put(key(f, i), longVal(f, "a")))
		if n%each == each-1 {
			well(t, s.Commit())
		}
	}
	well(t, s.Commit())
}

// Stores whose committed pairs came to be by unlike puts and deletes have the same pairs; Scan of all is what Committed's tree has.
func TestUnlikeOrders(t *testing.T) {
	for _, f := range sizes() {
		r := rand.New(rand.NewSource(3))
		var lists [][]api.Pair
		roots := map[api.Digest]bool{}
		for round := range 4 {
			s := opened(t, newDisk(t, f.Page, 5000), wide(f))
			putAll(t, s, f, r.Perm(60), 5+20*round)
			for i := range 20 {
				if was, e := s.Delete(key(f, 3*i)); !was || e != api.OK {
					t.Fatal(was, e)
				}
			}
			well(t, s.Commit())
			l, e := s.Scan("", "", 0)
			tree, code := s.Committed()
			well(t, e, code)
			if !slices.Equal(l, inTree(t, tree)) || len(l) != 40 {
				t.Fatalf("%v: %d pairs are scanned", f, len(l))
			}
			lists = append(lists, l)
			roots[tree.Root().Sum] = true
		}
		for _, l := range lists {
			if !slices.Equal(l, lists[0]) {
				t.Errorf("%v: unlike pairs", f)
			}
		}
		if f.Width == 32 && len(roots) == 1 {
			t.Errorf("%v: the trees are all of one shape: nothing is tried", f)
		}
	}
}

// Two stores on disks of their own know nothing of one another, and by the same calls come to the same bytes; a fork of a disk has its own life.
func TestStoresApart(t *testing.T) {
	for _, f := range sizes() {
		a, b := newTrial(t, wide(f)), newTrial(t, wide(f))
		r := rand.New(rand.NewSource(5))
		for range 200 {
			o := a.someOp(r, 30)
			a.ask(o)
			b.ask(o)
		}
		if !slices.Equal(a.d.Image(), b.d.Image()) {
			t.Errorf("%v: two unlike images", f)
		}
		a.put("mine alone", "1")
		b.get("mine alone")
		fork := opened(t, a.d.Fork(), a.c)
		well(t, fork.Put("theirs alone", "1"), fork.Commit())
		a.get("theirs alone")
		a.commit()
		a.whole()
		b.whole()
	}
}

// A store over a disk that may have more pages than the Config, and one over a file that another Config made.
func TestOtherMost(t *testing.T) {
	for _, f := range sizes() {
		d, e := disk.New(f.Page, 300)
		well(t, e)
		s := opened(t, d, api.Config{Frame: f, Most: 20})
		well(t, s.Put("a", "1"), s.Commit())
		s = opened(t, d, api.Config{Frame: f, Most: 300})
		if s.Config().Most != 300 {
			t.Error(s.Config())
		}
		for i := range 100 {
			well(t, s.Put(longKey(f, i), longVal(f, "a")))
		}
		well(t, s.Commit())
		if v := told(t, s); v.no != 2 || len(v.pairs) != 101 {
			t.Error(v)
		}
		if s, e := store.Open(d, api.Config{Frame: f, Most: 20}); s != nil || e != api.ErrArg {
			t.Error("more pages are counted:", e)
		}
	}
}
