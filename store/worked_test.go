package store_test

import (
	"fmt"
	"math/rand"
	"slices"
	"strconv"
	"testing"

	"heartwood/api"
	"heartwood/growth"
	"heartwood/store"
	"heartwood/trunk"
)

// at answers what a store tells of one key, by all that tells of what is worked on, and by all that tells of what is committed; of each all have to tell the same.
func at(t *testing.T, s *store.Store, key string) (worked, committed string) {
	t.Helper()
	val, is, e := s.Get(key)
	l, code := s.Scan(key, key+"\x00", 0)
	well(t, e, code)
	working, e := s.Working()
	well(t, e)
	inWorking, has, e := working.Get(key)
	well(t, e)
	if is != has || is != (len(l) == 1) || val != inWorking || is && l[0] != (api.Pair{Key: key, Val: val}) {
		t.Fatalf("%q: Get %q %v, Scan %v, Working %q %v", key, val, is, l, inWorking, has)
	}
	tree, e := s.Committed()
	well(t, e)
	committed, _, e = tree.Get(key)
	no, code := s.Version()
	well(t, e, code)
	other, e := s.Tree(no)
	well(t, e)
	x, e := s.Edit()
	well(t, e)
	root, e := s.Root()
	well(t, e)
	if other.Root() != tree.Root() || tree.Root().Sum != root || x.Base() != tree.Root() {
		t.Fatalf("%q: what is committed: %v, %v", key, other.Root(), tree.Root())
	}
	return val, committed
}

// Which of the two each call tells of, step by step.
func TestWorkedAndCommitted(t *testing.T) {
	for _, f := range frames() {
		d := newDisk(t, f.Page, 64)
		s := opened(t, d, api.Config{Frame: f, Most: 64})
		put := func(val string) func() api.Errno { return func() api.Errno { return s.Put("a", val) } }
		remove := func() api.Errno { _, e := s.Delete("a"); return e }
		open := func() api.Errno {
			s = opened(t, d, api.Config{Frame: f, Most: 64})
			return api.OK
		}
		commit, rollback := func() api.Errno { return s.Commit() }, func() api.Errno { return s.Rollback() }
		steps := []struct {
			do                func() api.Errno
			worked, committed string
			version           uint64
		}{
			{rollback, "", "", 0}, {put("1"), "1", "", 0}, {put("2"), "2", "", 0}, {rollback, "", "", 0}, {rollback, "", "", 0},
			{put("3"), "3", "", 0}, {commit, "3", "3", 1}, {put("4"), "4", "3", 1}, {remove, "", "3", 1}, {rollback, "3", "3", 1},
			{remove, "", "3", 1}, {remove, "", "3", 1}, {commit, "", "", 2}, {rollback, "", "", 2}, {put("5"), "5", "", 2},
			{open, "", "", 2}, {put("6"), "6", "", 2}, {commit, "6", "6", 3}, {open, "6", "6", 3}, {commit, "6", "6", 4}, {put("7"), "7", "6", 4},
			{commit, "7", "7", 5}, {rollback, "7", "7", 5},
		}
		for i, x := range steps {
			well(t, x.do())
			worked, committed := at(t, s, "a")
			v, e := s.Version()
			if worked != x.worked || committed != x.committed || v != x.version || e != api.OK {
				t.Fatalf("%v: step %d: worked on %q, committed %q, version %d", f, i, worked, committed, v)
			}
		}
	}
}

// snap is a tree that was told, and what it had then.
type snap struct {
	what  string
	tree  *trunk.Tree
	root  api.Root
	pairs []api.Pair
}

func (y *trial) snap(what string) snap {
	y.t.Helper()
	tree, e := y.s.Working()
	well(y.t, e)
	return snap{what, tree, tree.Root(), pairsOf(y.worked)}
}

func (s snap) stays(t *testing.T, behind string) {
	t.Helper()
	if s.tree.Root() != s.root || !slices.Equal(inTree(t, s.tree), s.pairs) {
		t.Errorf("Working told %s, behind %s: another tree", s.what, behind)
	}
	for _, p := range s.pairs {
		if val, is, e := s.tree.Get(p.Key); val != p.Val || !is || e != api.OK {
			t.Errorf("Working told %s, behind %s: Get(%q): %v", s.what, behind, p.Key, e)
		}
	}
}

// Working told ahead of puts, deletes, commits and rollbacks: what it tells behind them.
func TestWorkingStays(t *testing.T) {
	t.Parallel()
	for _, f := range sizes() {
		y := newTrial(t, wide(f))
		snaps := []snap{y.snap("of a new store")}
		stay := func(behind string) {
			t.Helper()
			for _, s := range snaps {
				s.stays(t, fmt.Sprint(f, behind))
			}
		}
		for i := range 30 {
			y.put(longKey(f, 2*i), longVal(f, "a"))
			if i%10 == 5 {
				snaps = append(snaps, y.snap("between puts"))
			}
		}
		stay("puts")
		snaps = append(snaps, y.snap("ahead of a rollback"))
		y.rollback()
		stay("a rollback")
		for i := range 30 {
			y.put(longKey(f, 3*i), longVal(f, "b"))
		}
		y.commit()
		stay("a commit") // all of it was on no page
		snaps = []snap{y.snap("where nothing is worked on")}
		for i := range 30 {
			y.put(longKey(f, 2*i), longVal(f, "c"))
			y.remove(longKey(f, 3*i))
			if i%7 == 0 {
				snaps = append(snaps, y.snap("between puts and deletes"))
				stay("puts and deletes")
			}
		}
		y.rollback()
		stay("a rollback")
		y.put(longKey(f, 9), "d")
		snaps = append(snaps, y.snap("ahead of a commit"))
		y.put(longKey(f, 10), "d")
		y.commit()
		stay("a commit") // what it has released can be taken by the next one
		y.whole()
	}
}

// Where its version is held, a Working of it stays whatever is committed.
func TestWorkingOfAHeldVersion(t *testing.T) {
	t.Parallel()
	for _, f := range sizes() {
		y := newTrial(t, wide(f))
		for i := range 30 {
			y.put(longKey(f, 2*i), longVal(f, "a"))
		}
		y.commit()
		v, e := y.s.Hold()
		well(t, e)
		w, e := y.twin.f.Hold()
		if v != w || e != api.OK {
			t.Fatal(v, w, e)
		}
		y.put(longKey(f, 5), "x")
		s := y.snap("of a version that is held")
		for n := range 20 {
			y.put(longKey(f, n), longVal(f, "b"))
			y.commit()
			s.stays(t, "commits")
		}
		if held := y.s.Held(); !slices.Equal(held, []uint64{v}) {
			t.Error(held)
		}
		tree, e := y.s.Tree(v)
		well(t, e)
		if l := inTree(t, tree); len(l) != 30 {
			t.Errorf("%d pairs are held", len(l))
		}
	}
}

// Where nobody holds it, of an old tree it is promised that calls end.
func TestOldTreesEnd(t *testing.T) {
	t.Parallel()
	for _, f := range sizes() {
		s := opened(t, newDisk(t, f.Page, 500), api.Config{Frame: f, Most: 500})
		var trees []*trunk.Tree
		for n := range 30 {
			for i := range 30 {
				well(t, s.Put(longKey(f, 7*i+n), strconv.Itoa(n)))
			}
			a, e := s.Working()
			b, code := s.Committed()
			well(t, e, code)
			trees = append(trees, a, b)
			well(t, s.Commit())
		}
		for _, tree := range trees {
			tree.Get(longKey(f, 7))
			tree.Shape()
			for range tree.Walk() {
			}
		}
		if v := told(t, s); v.no != 30 {
			t.Error(v)
		}
	}
}

// Trees that are told are nobody else's: what is done to one of them, or to what it stands on, is done to no other, nor to the store.
func TestTreesApart(t *testing.T) {
	for _, f := range sizes() {
		y := newTrial(t, wide(f))
		for i := range 25 {
			y.put(longKey(f, i), longVal(f, "a"))
		}
		y.commit()
		for i := range 5 {
			y.put(longKey(f, 30+i), "b")
		}
		kept := y.snap("beside others")
		a, e := y.s.Working()
		b, code := y.s.Committed()
		well(t, e, code)
		for _, tree := range []*trunk.Tree{a, b} {
			if x, is := tree.Source.(*growth.Edit); is {
				for i := range 25 {
					x.Put(longKey(f, i), "z")
					x.Delete(longKey(f, i+1))
				}
			}
			*tree = trunk.Tree{}
		}
		y.whole()
		kept.stays(t, "others were written to")
		y.commit()
		y.whole()
	}
}

// another is a change of the file's own: its tree with one pair more.
func another(t *testing.T, s *store.Store, key, val string) *growth.Edit {
	t.Helper()
	x, e := s.Edit()
	well(t, e)
	if _, e := x.Put(key, val); e != api.OK {
		t.Fatal(e)
	}
	return x
}

// A version that the file itself makes, while something is worked on: this is worked on no more. It is so, too, where that version changes nothing, so that its root is the one that was.
func TestFilesOwnCommit(t *testing.T) {
	commits := map[string]func(s *store.Store, x *growth.Edit) (api.Errno, uint64){
		"Commit":               func(s *store.Store, x *growth.Edit) (api.Errno, uint64) { return s.File.Commit(x), 2 },
		"CommitAs of the next": func(s *store.Store, x *growth.Edit) (api.Errno, uint64) { return s.CommitAs(x, 2), 2 },
		"CommitAs of a later":  func(s *store.Store, x *growth.Edit) (api.Errno, uint64) { return s.CommitAs(x, 4711), 4711 },
		"CommitAs of the last": func(s *store.Store, x *growth.Edit) (api.Errno, uint64) { return s.CommitAs(x, 1<<40-1), 1<<40 - 1 },
		"two, one behind other": func(s *store.Store, x *growth.Edit) (api.Errno, uint64) {
			s.CommitAs(x, 5)
			y, _ := s.Edit()
			return s.File.Commit(y), 6
		},
	}
	asks := map[string]func(s *store.Store){
		"nothing": func(*store.Store) {},
		"a get":   func(s *store.Store) { s.Get("a") },
	}
	for what, do := range commits {
		for _, changes := range []bool{false, true} {
			for ahead, ask := range asks {
				for _, f := range sizes() {
					d := newDisk(t, f.Page, 64)
					s := opened(t, d, api.Config{Frame: f, Most: 64})
					well(t, s.Put("a", "1"), s.Commit(), s.Put("a", "9"), s.Put("c", "9"))
					working, e := s.Working()
					well(t, e)
					x, e := s.Edit()
					well(t, e)
					if changes {
						x = another(t, s, "b", "2")
					}
					e, no := do(s, x)
					well(t, e)
					ask(s)
					due := []api.Pair{{Key: "a", Val: "1"}}
					if changes {
						due = append(due, api.Pair{Key: "b", Val: "2"})
					}
					name := fmt.Sprint(f, what, changes, ahead)
					ownIs(t, name, s, no, due)
					if val, _, e := working.Get("a"); val != "9" || e != api.OK {
						t.Errorf("%s: Working told ahead of it: %q, %v", name, val, e)
					}
					well(t, s.Put("d", "4"), s.Commit())
					ownIs(t, name, s, no+1, append(due, api.Pair{Key: "d", Val: "4"}))
					if v := durable(t, f, d.Image()); v.no != no+1 || len(v.pairs) != len(due)+1 {
						t.Errorf("%s: durable is %v", name, v)
					}
				}
			}
		}
	}
}

// ownIs holds a store with which nothing is worked on against a version and its pairs.
func ownIs(t *testing.T, name string, s *store.Store, no uint64, due []api.Pair) {
	t.Helper()
	l, e := s.Scan("", "", 0)
	v := told(t, s)
	tree, code := s.Working()
	well(t, e, code)
	if !slices.Equal(l, due) || v.no != no || !slices.Equal(v.pairs, due) || tree.Root() != s.Meta().Root || !slices.Equal(inTree(t, tree), due) {
		t.Errorf("%s: %v is committed, and worked on are %v", name, v, l)
	}
}

// Behind a version of the file's own the store's first call may be any one: none of them brings back what was worked on.
func TestFirstCallBehindFilesCommit(t *testing.T) {
	f := small().Frame
	calls := map[string]func(s *store.Store){
		"Commit":    func(s *store.Store) { well(t, s.Commit()) },
		"Rollback":  func(s *store.Store) { well(t, s.Rollback()) },
		"Put":       func(s *store.Store) { well(t, s.Put("b", "2")) },
		"Delete":    func(s *store.Store) { s.Delete("c") },
		"Scan":      func(s *store.Store) { s.Scan("", "", 0) },
		"Working":   func(s *store.Store) { s.Working() },
		"Committed": func(s *store.Store) { s.Committed() },
		"Root":      func(s *store.Store) { s.Root(); s.Version() },
		"Do":        func(s *store.Store) { s.Do(api.Op{Kind: api.OpGet, Key: "a"}) },
		"a refusal": func(s *store.Store) { s.Put("", ""); s.Do(api.Op{}) },
	}
	for what, call := range calls {
		s := opened(t, newDisk(t, f.Page, 64), small())
		well(t, s.Put("a", "1"), s.Put("b", "2"), s.Commit(), s.Put("a", "9"))
		if _, e := s.Delete("b"); e != api.OK {
			t.Fatal(e)
		}
		x, e := s.Edit()
		well(t, e, s.File.Commit(x))
		call(s)
		l, e := s.Scan("", "", 0)
		v := told(t, s)
		due := []api.Pair{{Key: "a", Val: "1"}, {Key: "b", Val: "2"}}
		if e != api.OK || !slices.Equal(l, due) || !slices.Equal(v.pairs, due) {
			t.Errorf("%s: worked on are %v, committed is %v, %v", what, l, v, v.pairs)
		}
	}
}

// What the file refuses makes no version: what is worked on stays.
func TestFilesCommitRefused(t *testing.T) {
	y := newTrial(t, small())
	y.put("a", "1")
	y.commit()
	y.put("b", "2")
	y.remove("a")
	x := another(t, y.s, "c", "3")
	other := another(t, opened(t, newDisk(t, 1024, 64), small()), "c", "3")
	was := y.d.Acts()
	codes := []api.Errno{y.s.File.Commit(nil), y.s.File.Commit(other), y.s.CommitAs(x, 1), y.s.CommitAs(x, 0), y.s.CommitAs(x, 1<<40+1)}
	if due := []api.Errno{api.ErrNil, api.ErrOther, api.ErrArg, api.ErrArg, api.ErrArg}; !slices.Equal(codes, due) || y.d.Acts() != was {
		t.Error(codes)
	}
	y.whole()
	y.commit()
	y.whole()
}

// The greatest version: a commit behind it gives the store up.
func TestLastVersion(t *testing.T) {
	for _, f := range sizes() {
		d := newDisk(t, f.Page, 64)
		s := opened(t, d, api.Config{Frame: f, Most: 64})
		well(t, s.Put("a", "1"), s.CommitAs(another(t, s, "b", "2"), api.MaxVersion), s.Put("c", "3"))
		was := d.Acts()
		if e := s.Commit(); e != api.ErrFull || s.State() != api.ErrState || d.Acts() != was {
			t.Errorf("%v: %v, and then %v", f, e, s.State())
		}
		s = opened(t, d, api.Config{Frame: f, Most: 64})
		if v := told(t, s); v.no != api.MaxVersion || !slices.Equal(v.pairs, []api.Pair{{Key: "b", Val: "2"}}) {
			t.Error(v)
		}
	}
}

// Versions that the file makes between the store's own, by chance, held against a plain map.
func TestBothCommit(t *testing.T) {
	t.Parallel()
	for i, f := range frames() {
		r := rand.New(rand.NewSource(int64(i)))
		y := newTrial(t, wide(f))
		for range 150 {
			y.ask(y.someOp(r, 30))
			if r.Intn(8) > 0 {
				continue
			}
			x, e := y.s.Edit()
			well(t, e)
			y.rollback() // in the model, and in the store, if it is asked ahead of the file's commit
			k := key(f, r.Intn(30))
			if y.worked[k] = "by the file"; r.Intn(2) == 0 {
				delete(y.worked, k)
				_, e = x.Delete(k)
			} else {
				_, e = x.Put(k, "by the file")
			}
			well(t, e)
			if r.Intn(2) == 0 {
				well(t, y.s.Put("lost", "by that"))
			}
			y.version += 1 + uint64(r.Intn(3))
			well(t, y.s.CommitAs(x, y.version), y.twin.f.CommitAs(x, y.version))
			y.committed = map[string]string{}
			for k, v := range y.worked {
				y.committed[k] = v
			}
			y.twin.begin(t)
			y.whole()
		}
	}
}
