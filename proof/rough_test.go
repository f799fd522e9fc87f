package proof_test

import (
	"fmt"
	"testing"

	"heartwood/api"
	"heartwood/node"
	"heartwood/page"
	"heartwood/proof"
	"heartwood/trunk"
)

// refusesToProve complains, if Prove does not answer so and no bytes.
func refusesToProve(t *testing.T, what string, tree *trunk.Tree, key string, want api.Errno) {
	t.Helper()
	if s, e := proof.Prove(tree, key); s != "" || e != want {
		t.Errorf("%s: Prove(.., %.20q): %x %v, and not %v", what, key, s, e, want)
	}
}

// Trees that are not well formed, and of which the nodes on the way are such as Path believes: what is read there is what is told.
func TestTreesThatAreNotWellFormed(t *testing.T) {
	for _, f := range frames() {
		for _, c := range []struct {
			what  string
			key   string
			want  api.Answer
			nodes []api.Node
		}{
			{"thin nodes", "e", api.Answer{Found: true, Val: "1"}, []api.Node{branch(f, "d", "g"), leaf("e=1")}},
			{"thin nodes, and no such key", "e", api.Answer{}, []api.Node{branch(f, "d", "g"), leaf("f=1")}},
			{"a chain", "m", api.Answer{Found: true, Val: "1"}, chain(f, 7)},
			{"a chain of as many as may be", "m", api.Answer{Found: true, Val: "1"}, chain(f, mostLevels)},
			{"a leaf alone", "m", api.Answer{}, []api.Node{leaf("a=1")}},
		} {
			tree, s := row(t, f, c.key, c.nodes...)
			if _, e := tree.Shape(); len(c.nodes) > 1 && e == api.OK {
				t.Fatalf("%s: this was to be no well formed tree", c.what)
			}
			s.asked = nil
			said, e := proof.Prove(tree, c.key)
			if e != api.OK || len(s.asked) != len(c.nodes) {
				t.Errorf("%v: %s: Prove: %v, asked for %v", f, c.what, e, s.asked)
			}
			taken(t, c.what, f, tree.Root().Sum, c.key, said, c.want)
			if v, is, e := tree.Get(c.key); v != c.want.Val || is != c.want.Found || e != api.OK {
				t.Errorf("%v: %s: Get: %q %t %v", f, c.what, v, is, e)
			}
		}
		// A root that counts other pairs than there are is nobody's affair here.
		x := grown(t, f, longPairs(f, 12)...)
		r := x.Root()
		r.Count += 7
		r.Version = 99
		tree := treeAt(t, f, x, r)
		taken(t, "another count", f, r.Sum, longKey(f, 3), proved(t, tree, longKey(f, 3)), api.Answer{Found: true, Val: longPairs(f, 2)[1].Val})
	}
}

// What Path does not believe is not proved: its error is told.
func TestPathsThatAreNotBelieved(t *testing.T) {
	for _, f := range frames() {
		for _, c := range []struct {
			what  string
			key   string
			nodes []api.Node
		}{
			{"a key below the lower bound", "e", []api.Node{branch(f, "d", "g"), leaf("c=1", "e=2")}},
			{"a key at the upper bound", "e", []api.Node{branch(f, "d", "g"), leaf("e=1", "g=2")}},
			{"a separator at the lower bound", "e", []api.Node{branch(f, "d", "g"), branch(f, "d", "f"), leaf("e=1")}},
			{"an empty leaf under a branch", "e", []api.Node{branch(f, "d", "g"), {}}},
			{"an empty leaf on a page", "e", []api.Node{{}}},
			{"a chain that is too long", "m", chain(f, mostLevels+1)},
		} {
			tree, _ := row(t, f, c.key, c.nodes...)
			if _, e := tree.Path(c.key); e != api.ErrBad {
				t.Fatalf("%s: Path: %v", c.what, e)
			}
			refusesToProve(t, c.what, tree, c.key, api.ErrBad)
		}
	}
}

// A node on the way that is not to be read, or another one than the one ahead names; one that lies aside is not asked for.
func TestNodesThatAreNotToBeRead(t *testing.T) {
	for _, f := range sizes() {
		nodes := []api.Node{branch(f, "d", "m"), branch(f, "g", "k"), leaf("h=1", "i=2")}
		for at := range nodes {
			for _, due := range []api.Errno{api.ErrNil, api.ErrArg, api.ErrIO, api.ErrOff, api.ErrState, api.ErrProof, -1, 1 << 50} {
				tree, s := row(t, f, "h", nodes...)
				s.errs[uint32(at)+2] = due
				refusesToProve(t, fmt.Sprint("an error at ", at), tree, "h", due)
			}
			tree, s := row(t, f, "h", nodes...)
			delete(s.nodes, uint32(at)+2)
			refusesToProve(t, fmt.Sprint("nothing at ", at), tree, "h", api.ErrNone)
			tree, s = row(t, f, "h", nodes...)
			s.nodes[uint32(at)+2] = leaf("h=3")
			refusesToProve(t, fmt.Sprint("another node at ", at), tree, "h", api.ErrBad)
			tree, s = row(t, f, "h", nodes...)
			s.nodes[uint32(at)+2] = api.Node{Seps: []string{"x"}}
			refusesToProve(t, fmt.Sprint("no right node at ", at), tree, "h", api.ErrBad)
		}
		// The first of two that are wrong.
		tree, s := row(t, f, "h", nodes...)
		s.errs[3], s.errs[4] = api.ErrIO, api.ErrOff
		refusesToProve(t, "two errors", tree, "h", api.ErrIO)
	}
}

// A page that is gone from its shelf, or that another one took the place of: keys whose way comes by it have no proof, all others have.
func TestPagesThatAreGone(t *testing.T) {
	f := small()
	pairs := longPairs(f, 40)
	x := grown(t, f, pairs...)
	var at []uint32
	for i := range x.Changed() {
		at = append(at, uint32(i)+2)
	}
	pages, root, e := x.Lay(1, at)
	if e != api.OK {
		t.Fatal(e)
	}
	for i := range pages {
		rest := append(append([]api.Page{}, pages[:i]...), pages[i+1:]...)
		shelf, e := page.NewShelf(f, rest...)
		source, code := trunk.Over(f, shelf)
		if e != api.OK || code != api.OK {
			t.Fatal(e, code)
		}
		tree := treeAt(t, f, source, root)
		gone := 0
		for j, p := range pairs {
			_, due := tree.Path(p.Key)
			said, e := proof.Prove(tree, p.Key)
			if e != due || (e == api.OK) != (said != "") {
				t.Errorf("without the page %d: Prove of the key %d: %v, and not %v", pages[i].No, j, e, due)
			}
			if e != api.OK {
				gone++
			} else {
				taken(t, "beside a page that is gone", f, root.Sum, p.Key, said, api.Answer{Found: true, Val: p.Val})
			}
		}
		if gone == 0 {
			t.Errorf("without the page %d all is proved", pages[i].No)
		}
	}
}

// noTrees are nil, and such trees as trunk's New did not make.
func noTrees(t *testing.T) map[string]*trunk.Tree {
	t.Helper()
	left, s := row(t, small(), "a", leaf("a=1"))
	left.Source = nil
	return map[string]*trunk.Tree{"nil": nil, "zero": {}, "with a source": {Source: s}, "without its source": left}
}

// No tree is told ahead of a key that may not be, and a key that may not be ahead of what is wrong with the tree.
func TestTreesThatAreNone(t *testing.T) {
	for what, tree := range noTrees(t) {
		for _, key := range []string{"a", "", longKey(small(), 1), longKey(small(), 1) + "k", longKey(api.Frame{Page: 8192}, 1) + "k"} {
			refusesToProve(t, what, tree, key, api.ErrNil)
		}
	}
	for _, f := range frames() {
		tree, s := row(t, f, "m", chain(f, 3)...)
		s.errs[2] = api.ErrIO
		refusesToProve(t, "a key as long as may be", tree, longKey(f, 1), api.ErrIO)
		refusesToProve(t, "a key that is too long", tree, longKey(f, 1)+"k", api.ErrArg)
		refusesToProve(t, "no key", tree, "", api.ErrArg)
		refusesToProve(t, "a key that is too long, of the empty tree", emptyTree(t, f), longKey(f, 1)+"k", api.ErrArg)
		refusesToProve(t, "no key, of the empty tree", emptyTree(t, f), "", api.ErrArg)
	}
}

// A tree over an Edit that goes on: the Tree that was made stays at what it was, and so do its proofs.
func TestTreesThatGoOn(t *testing.T) {
	f := small()
	x := grown(t, f, longPairs(f, 12)...)
	tree := treeOf(t, x.Copy())
	was := proved(t, tree, longKey(f, 5))
	if _, e := x.Put(longKey(f, 5), "another one"); e != api.OK {
		t.Fatal(e)
	}
	now := treeOf(t, x)
	if said := proved(t, tree, longKey(f, 5)); said != was {
		t.Errorf("the proof is another one: %x", said)
	}
	taken(t, "the tree now", f, now.Root().Sum, longKey(f, 5), proved(t, now, longKey(f, 5)), api.Answer{Found: true, Val: "another one"})
	refused(t, "the tree that was", f, now.Root().Sum, longKey(f, 5), was)
}

// What a source keeps is left as it was, and so are its lists' spare rooms.
func TestSourcesAreLeftAsTheyWere(t *testing.T) {
	f := small()
	tree, s := row(t, f, "h", branch(f, "d", "m"), leaf("g=1", "h=2"))
	was := map[uint32]api.Node{}
	for no, n := range s.nodes {
		n.Pairs = append(append(make([]api.Pair, 0, 9), n.Pairs...), api.Pair{Key: "spare"})[:len(n.Pairs)]
		n.Seps = append(append(make([]string, 0, 9), n.Seps...), "spare")[:len(n.Seps)]
		n.Kids = append(append(make([]api.Kid, 0, 9), n.Kids...), api.Kid{Page: 77})[:len(n.Kids)]
		s.nodes[no] = n
		was[no] = node.Copy(stretched(n))
	}
	proved(t, tree, "h")
	for no, n := range s.nodes {
		if !node.Same(stretched(n), was[no]) {
			t.Errorf("the node %d is another one: %v", no, stretched(n))
		}
	}
}

// stretched is a node with the room behind its lists.
func stretched(n api.Node) api.Node {
	return api.Node{Pairs: n.Pairs[:cap(n.Pairs)], Seps: n.Seps[:cap(n.Seps)], Kids: n.Kids[:cap(n.Kids)]}
}
