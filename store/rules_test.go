package store_test

import (
	"slices"
	"testing"

	"heartwood/api"
	"heartwood/trunk"
)

// scribble writes over lists of pairs, the room behind them included.
func scribble(lists ...[]api.Pair) {
	for _, l := range lists {
		l = l[:cap(l)]
		for i := range l {
			l[i] = api.Pair{Key: "scribbled", Val: "over"}
		}
	}
}

// What is answered is memory of its own: to write over it changes neither the store nor another answer.
func TestAnswersAreOwn(t *testing.T) {
	for _, f := range sizes() {
		y := newTrial(t, wide(f))
		for i := range 30 {
			y.put(longKey(f, i), longVal(f, "a"))
		}
		for range 2 {
			scan := api.Op{Kind: api.OpScan}
			a, _ := y.s.Scan("", "", 0)
			b := y.s.Do(scan)
			l := y.s.Does(scan, scan, api.Op{Kind: api.OpScan, Limit: 3})
			kept := y.s.Does(scan, scan)
			scribble(a, b.Pairs, l[0].Pairs, l[2].Pairs)
			if !slices.Equal(l[1].Pairs, pairsOf(y.worked)) {
				t.Errorf("%v: two lists of one answer share their memory", f)
			}
			l = l[:cap(l)]
			for i := range l {
				l[i] = api.Reply{Err: 77, Pairs: a}
			}
			if !slices.Equal(kept[0].Pairs, pairsOf(y.worked)) || !same(kept[0], kept[1]) {
				t.Errorf("%v: two answers share their memory", f)
			}
			y.whole()
			y.commit()
			y.whole()
		}
	}
}

// What a tree of the store tells may be written over, while it is gone through and behind that.
func TestTreesTellOwnMemory(t *testing.T) {
	for _, f := range sizes() {
		y := newTrial(t, wide(f))
		for i := range 30 {
			y.put(longKey(f, i), longVal(f, "a"))
		}
		y.commit()
		for i := range 9 {
			y.put(longKey(f, 3*i), "b")
		}
		kept := y.snap("ahead of scribbling")
		working, e := y.s.Working()
		committed, code := y.s.Committed()
		well(t, e, code)
		for _, tree := range []*trunk.Tree{working, committed} {
			numbers, e := tree.Pages()
			well(t, e)
			for _, no := range numbers {
				overwrite(tree.Node(no))
				overwrite(tree.Source.Node(no))
			}
			for spot, e := range tree.Walk() {
				overwrite(spot.Node, e)
			}
			for i := range 30 {
				path, e := tree.Path(longKey(f, i))
				for _, spot := range path {
					overwrite(spot.Node, e)
				}
			}
		}
		kept.stays(t, "scribbling")
		y.whole()
		y.commit()
		y.whole()
	}
}

// overwrite writes over a node's lists.
func overwrite(n api.Node, _ api.Errno) {
	scribble(n.Pairs)
	for i := range n.Seps[:cap(n.Seps)] {
		n.Seps[:cap(n.Seps)][i] = "scribbled"
	}
	for i := range n.Kids[:cap(n.Kids)] {
		n.Kids[:cap(n.Kids)][i] = api.Kid{Page: 77}
	}
}

// Ops that are handed in are left as they were, spare room behind them included, and are not kept.
func TestOpsAreLeft(t *testing.T) {
	for _, f := range sizes() {
		s := opened(t, newDisk(t, f.Page, 64), api.Config{Frame: f, Most: 64})
		room := append(allKinds(f), api.Op{Kind: api.OpPut, Key: "spare", Val: "room"}, api.Op{Kind: api.OpCommit})
		was := slices.Clone(room)
		many := len(room) - 2
		l := s.Does(room[:many]...)
		if !slices.Equal(room, was) || len(l) != many {
			t.Fatalf("%v: the Ops are changed", f)
		}
		if _, is, e := s.Get("spare"); is || e != api.OK {
			t.Errorf("%v: the spare room is asked", f)
		}
		well(t, s.Put("a", "1"))
		ops := []api.Op{{Kind: api.OpPut, Key: "b", Val: "2"}}
		s.Does(ops...)
		ops[0] = api.Op{Kind: api.OpPut, Key: "z", Val: "9"}
		if l, e := s.Scan("", "", 0); !slices.Equal(l, []api.Pair{{Key: "a", Val: "1"}, {Key: "b", Val: "2"}}) || e != api.OK {
			t.Errorf("%v: %v %v", f, l, e)
		}
	}
}

// Calls that ask change nothing, in whatever order and however often: what is answered is the same each time.
func TestAskingChangesNothing(t *testing.T) {
	for _, f := range sizes() {
		y := newTrial(t, wide(f))
		for i := range 20 {
			y.put(longKey(f, i), longVal(f, "a"))
		}
		y.commit()
		y.put("b", "2")
		y.remove(longKey(f, 5))
		taken, acts, image := y.d.Taken(), y.d.Acts(), y.d.Image()
		for range 3 {
			y.whole()
			y.s.Committed()
			y.s.Working()
			y.s.Edit()
			y.s.Held()
			y.s.Free()
		}
		if y.d.Taken() != taken || y.d.Acts() != acts || !slices.Equal(y.d.Image(), image) {
			t.Errorf("%v: the disk is another one", f)
		}
	}
}

// The file's own calls are the store's: what it holds, its pages, its meta, its Config.
func TestFileIsPromoted(t *testing.T) {
	for _, f := range frames() {
		c := api.Config{Frame: f, Most: 64}
		s := opened(t, newDisk(t, f.Page, 64), c)
		well(t, s.Put("a", "1"), s.Commit())
		v, e := s.Hold()
		well(t, e, s.Again(v), s.Put("a", "2"), s.Commit(), s.Put("a", "3"))
		tree, e := s.Tree(v)
		well(t, e)
		if val, _, e := tree.Get("a"); v != 1 || val != "1" || e != api.OK {
			t.Errorf("%v: the held version %d: %q %v", f, v, val, e)
		}
		if p, e := s.Page(s.Meta().Root.Page); e != api.OK || p.Kind != api.PageLeaf || p.Version != 2 {
			t.Errorf("%v: %+v %v", f, p, e)
		}
		if s.Config() != c || s.Meta().Version != 2 || !slices.Equal(s.Held(), []uint64{1}) || len(s.Kept()) != 1 || len(s.Free()) != 0 || len(s.Lists()) != 1 {
			t.Errorf("%v: Held %v, Kept %v, Free %v, Lists %v", f, s.Held(), s.Kept(), s.Free(), s.Lists())
		}
		well(t, s.Drop(v), s.Drop(v))
		if s.Drop(v) != api.ErrGone || len(s.Kept()) != 0 || s.State() != api.OK {
			t.Errorf("%v: a version that is held no more", f)
		}
		if val, _, e := s.Get("a"); val != "3" || e != api.OK {
			t.Errorf("%v: what is worked on: %q %v", f, val, e)
		}
	}
}
