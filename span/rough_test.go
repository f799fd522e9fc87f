package span_test

import (
	"fmt"
	"slices"
	"strings"
	"testing"

	"heartwood/api"
	"heartwood/node"
	"heartwood/pack"
	"heartwood/page"
	"heartwood/span"
	"heartwood/trunk"
)

// fails complains, if Prove and Touched do not answer this error and nothing else.
func fails(t *testing.T, what string, tree *trunk.Tree, r keyRange, want api.Errno) {
	t.Helper()
	if s, e := span.Prove(tree, r.lo, r.hi); s != "" || e != want {
		t.Errorf("%s: Prove(.., %.20q): %x %v, and not %v", what, r, s, e, want)
	}
	if s, e := span.Touched(tree, r.lo, r.hi); s != (api.Shape{}) || e != want {
		t.Errorf("%s: Touched(.., %.20q): %v %v, and not %v", what, r, s, e, want)
	}
}

// Trees that are not well formed, and of which the nodes of the range are such as are believed: what is read there is what is told.
func TestTreesThatAreNotWellFormed(t *testing.T) {
	all := keyRange{"", ""}
	for _, f := range frames() {
		b := func(seps ...string) api.Node { return branch(f, seps...) }
		l := func(pairs ...string) *twig { return alone(leaf(pairs...)) }
		for _, c := range []struct {
			what  string
			r     keyRange
			want  api.Shape
			pairs []api.Pair
			w     *twig
		}{
			{"thin nodes", all, api.Shape{Height: 2, Leaves: 3, Branches: 1, Count: 3}, leaf("a=1", "d=2", "g=3").Pairs, with(b("d", "g"), 0, l("a=1"), l("d=2"), l("g=3"))},
			{"leaves that are not equally deep", all, api.Shape{Height: 3, Leaves: 4, Branches: 2, Count: 4}, leaf("a=1", "d=2", "e=3", "g=4").Pairs, with(b("d", "g"), 0, l("a=1"), with(b("e"), 0, l("d=2"), l("e=3")), l("g=4"))},
			{"the deeper leaves first", all, api.Shape{Height: 3, Leaves: 3, Branches: 2, Count: 3}, leaf("a=1", "c=2", "g=4").Pairs, with(b("d"), 0, with(b("b"), 0, l("a=1"), l("c=2")), l("g=4"))},
			{"the deeper leaves out of the range", keyRange{"d", ""}, api.Shape{Height: 2, Leaves: 1, Branches: 1, Count: 1}, leaf("g=4").Pairs, with(b("d"), 0, with(b("b"), 0, l("a=1"), l("c=2")), l("g=4"))},
			{"a chain", one("m"), api.Shape{Height: 7, Leaves: 1, Branches: 6, Count: 1}, leaf("m=1").Pairs, chain(f, 7)},
			{"a chain of as many as may be", one("m"), api.Shape{Height: 33, Leaves: 1, Branches: 32, Count: 1}, leaf("m=1").Pairs, chain(f, mostLevels)},
			{"a comb of as many as may be", all, api.Shape{Height: 33, Leaves: 33, Branches: 32, Count: 33}, combed(mostLevels), comb(f, mostLevels, 0)},
			{"a leaf alone", one("m"), api.Shape{Height: 1, Leaves: 1}, nil, l("a=1", "z=2")},
		} {
			tree, s := planted(t, f, c.w)
			if _, e := tree.Shape(); e == api.OK {
				t.Fatalf("%s: this was to be no well formed tree", c.what)
			}
			s.asked = nil
			said, e := span.Prove(tree, c.r.lo, c.r.hi)
			if e != api.OK || len(s.asked) != c.want.Leaves+c.want.Branches {
				t.Errorf("%v: %s: Prove: %v, asked for %v", f, c.what, e, s.asked)
			}
			taken(t, c.what, f, tree.Root().Sum, c.r, said, c.pairs)
			s.asked = nil
			if got, e := span.Touched(tree, c.r.lo, c.r.hi); got != c.want || e != api.OK || len(s.asked) != c.want.Leaves+c.want.Branches {
				t.Errorf("%v: %s: Touched: %v %v, and not %v; asked for %v", f, c.what, got, e, c.want, s.asked)
			}
		}
		// A root that counts other pairs than there are is nobody's affair here.
		x := grown(t, f, longPairs(f, 12)...)
		r := x.Root()
		r.Count += 7
		r.Version = 99
		tree := treeAt(t, f, x, r)
		taken(t, "another count", f, r.Sum, all, proved(t, tree, all), longPairs(f, 12))
		if got, e := span.Touched(tree, "", ""); got.Count != 12 || e != api.OK {
			t.Errorf("%v: another count: %v %v", f, got, e)
		}
	}
}

// combed are the pairs of a comb of so many levels.
func combed(levels int) []api.Pair {
	var l []api.Pair
	for i := range levels - 1 {
		l = append(l, api.Pair{Key: fmt.Sprintf("b%02da", i-1), Val: "1"})
	}
	return append(l, api.Pair{Key: "z", Val: "1"})
}

// What is not believed is not proved, where it is of the range; where it lies aside it is not asked for.
func TestNodesThatAreNotBelieved(t *testing.T) {
	for _, f := range frames() {
		b := func(seps ...string) api.Node { return branch(f, seps...) }
		l := func(pairs ...string) *twig { return alone(leaf(pairs...)) }
		for _, c := range []struct {
			what string
			in   keyRange
			out  keyRange
			w    *twig
		}{
			{"a key below the lower bound", one("e"), one("a"), with(b("d", "g"), 0, l("a=1"), l("c=1", "e=2"), l("g=1"))},
			{"a key at the upper bound", one("e"), one("h"), with(b("d", "g"), 0, l("a=1"), l("e=1", "g=2"), l("g=1"))},
			{"a separator at the lower bound", one("e"), one("h"), with(b("d", "g"), 0, l("a=1"), with(b("d", "f"), 0, l("d=1"), l("e=1"), l("f=1")), l("g=1"))},
			{"a separator at the upper bound", one("e"), one("a"), with(b("d", "g"), 0, l("a=1"), with(b("e", "g"), 0, l("d=1"), l("e=1"), l("f=1")), l("g=1"))},
			{"an empty leaf under a branch", one("e"), keyRange{"g", ""}, with(b("d", "g"), 0, l("a=1"), l(), l("g=1"))},
			{"a chain that is too long", one("m"), one("a"), with(b("b", "n"), 0, l("a=1"), chain(f, mostLevels), l("n=1"))},
		} {
			tree, s := planted(t, f, c.w)
			fails(t, c.what, tree, c.in, api.ErrBad)
			// Of a chain there is the one way alone.
			for _, r := range []keyRange{{"", ""}, {c.in.lo, ""}, {"", c.in.hi}} {
				if len(s.nodes) < mostLevels {
					fails(t, c.what, tree, r, api.ErrBad)
				}
			}
			s.asked = nil
			if said := proved(t, tree, c.out); len(s.asked) != 2 || len(formsOf(t, f, said)) != 2 {
				t.Errorf("%s: the range aside: asked for %v", c.what, s.asked)
			}
		}
		tree, _ := planted(t, f, alone(api.Node{}))
		fails(t, "an empty leaf on a page", tree, keyRange{"", ""}, api.ErrBad)
	}
}

// A node that is not to be read, or another one than the branch above names: the first error in the nodes' order is told.
func TestNodesThatAreNotToBeRead(t *testing.T) {
	all := keyRange{"", ""}
	for _, f := range sizes() {
		b := func(seps ...string) api.Node { return branch(f, seps...) }
		l := func(pairs ...string) *twig { return alone(leaf(pairs...)) }
		// In order: 2 the root, 3 and its leaves 4 and 5, the leaf 6, 7 and its leaves 8 and 9.
		w := with(b("d", "m"), 0, with(b("b"), 0, l("a=1"), l("b=2")), l("d=3"), with(b("x"), 0, l("m=4"), l("x=5")))
		codes := []api.Errno{api.ErrNil, api.ErrArg, api.ErrIO, api.ErrOff, api.ErrState, api.ErrProof, -1, 1 << 50}
		for at := uint32(2); at <= 9; at++ {
			for _, due := range codes {
				tree, s := planted(t, f, w)
				s.errs[at] = due
				fails(t, fmt.Sprint("an error at ", at), tree, all, due)
			}
			tree, s := planted(t, f, w)
			delete(s.nodes, at)
			fails(t, fmt.Sprint("nothing at ", at), tree, all, api.ErrNone)
			tree, s = planted(t, f, w)
			s.nodes[at] = leaf("h=3")
			fails(t, fmt.Sprint("another node at ", at), tree, all, api.ErrBad)
			tree, s = planted(t, f, w)
			s.nodes[at] = api.Node{Seps: []string{"x"}}
			fails(t, fmt.Sprint("no right node at ", at), tree, all, api.ErrBad)
			for later := at + 1; later <= 9; later++ {
				tree, s = planted(t, f, w)
				s.errs[at], s.errs[later] = api.ErrIO, api.ErrOff
				fails(t, fmt.Sprint("errors at ", at, " and ", later), tree, all, api.ErrIO)
				if want := at - 1; len(s.asked) != 2*int(want) {
					t.Errorf("errors at %d and %d: asked for %v", at, later, s.asked)
				}
			}
		}
		for _, c := range []struct {
			r  keyRange
			of []uint32
		}{
			{all, []uint32{2, 3, 4, 5, 6, 7, 8, 9}}, {keyRange{"b", "m"}, []uint32{2, 3, 5, 6}}, {keyRange{"d", "m"}, []uint32{2, 6}}, {keyRange{"x", ""}, []uint32{2, 7, 9}}, {keyRange{"", "b"}, []uint32{2, 3, 4}}, {keyRange{"a", "a"}, []uint32{2, 3, 4}}, {keyRange{"z", "a"}, []uint32{2}}, {keyRange{"c", "n"}, []uint32{2, 3, 5, 6, 7, 8}},
		} {
			tree, s := planted(t, f, w)
			proved(t, tree, c.r)
			if !slices.Equal(s.asked, c.of) {
				t.Errorf("%v: %q: asked for %v, and not %v", f, c.r, s.asked, c.of)
			}
			// What lies aside may be gone.
			for at := uint32(2); at <= 9; at++ {
				if !slices.Contains(c.of, at) {
					delete(s.nodes, at)
				}
			}
			taken(t, "all else gone", f, tree.Root().Sum, c.r, proved(t, tree, c.r), c.r.of(leaf("a=1", "b=2", "d=3", "m=4", "x=5").Pairs))
			if _, e := span.Touched(tree, c.r.lo, c.r.hi); e != api.OK {
				t.Errorf("%v: %q: Touched: %v", f, c.r, e)
			}
		}
	}
}

// A page that is gone from its shelf: ranges of which it is one of the nodes have no proof, all others have.
func TestPagesThatAreGone(t *testing.T) {
	f := api.Frame{Page: 1024, Width: 32}
	pairs := longPairs(f, 40)
	x := grown(t, f, pairs...)
	var at []uint32
	for i := range x.Changed() {
		at = append(at, uint32(i)+2)
	}
	pages, root, e := x.Lay(1, at)
	if e != api.OK {
		t.Fatal(e)
	}
	for i := range pages {
		rest := append(append([]api.Page{}, pages[:i]...), pages[i+1:]...)
		shelf, e := page.NewShelf(f, rest...)
		source, code := trunk.Over(f, shelf)
		if e != api.OK || code != api.OK {
			t.Fatal(e, code)
		}
		tree := treeAt(t, f, source, root)
		gone, there := 0, 0
		for j := range pairs {
			r := keyRange{pairs[j].Key, pairs[min(j+3, 39)].Key}
			said, e := span.Prove(tree, r.lo, r.hi)
			if e != api.OK {
				fails(t, "a page that is gone", tree, r, e)
				gone++
				continue
			}
			there++
			taken(t, "beside a page that is gone", f, root.Sum, r, said, r.of(pairs))
		}
		if gone == 0 || there == 0 && i != len(pages)-1 {
			t.Errorf("without the page %d: %d ranges are proved, and %d are not", pages[i].No, there, gone)
		}
	}
}

// noTrees are nil, and such trees as trunk's New did not make.
func noTrees(t *testing.T) map[string]*trunk.Tree {
	t.Helper()
	left, s := planted(t, small(), alone(leaf("a=1")))
	left.Source = nil
	return map[string]*trunk.Tree{"nil": nil, "zero": {}, "with a source": {Source: s}, "without its source": left}
}

func TestTreesThatAreNone(t *testing.T) {
	for what, tree := range noTrees(t) {
		for _, r := range []keyRange{{"", ""}, {"a", "b"}, {"b", "a"}, {strings.Repeat("a", 100000), ""}} {
			fails(t, what, tree, r, api.ErrNil)
		}
	}
}

// The empty tree has no node, and nothing is asked for.
func TestTheEmptyTree(t *testing.T) {
	for _, f := range frames() {
		for _, r := range []keyRange{{"", ""}, {"a", "b"}, {"b", "a"}, {"a", "a"}, {strings.Repeat("a", 100000), ""}} {
			tree := emptyTree(t, f)
			taken(t, "the empty tree", f, tree.Root().Sum, r, proved(t, tree, r), nil)
			if s := proved(t, tree, r); s != pack.Join("\x01\x00") {
				t.Errorf("%v: %.20q: %x", f, r, s)
			}
			if s, e := span.Touched(tree, r.lo, r.hi); s != (api.Shape{}) || e != api.OK {
				t.Errorf("%v: Touched(%.20q): %v %v", f, r, s, e)
			}
		}
	}
}

// faulty is a source that does not keep its word.
type faulty struct{}

func (faulty) Node(uint32) (api.Node, api.Errno) { panic("a fault of the source's own") }

// A source's own panic is not told as an answer: it goes on to who handed the source in.
func TestSourcesThatPanic(t *testing.T) {
	tree := treeAt(t, small(), faulty{}, api.Root{Page: 2, Count: 1})
	for _, call := range []func(){func() { span.Prove(tree, "", "") }, func() { span.Touched(tree, "", "") }} {
		func() {
			defer func() {
				if x := recover(); x != "a fault of the source's own" {
					t.Errorf("it came as %v", x)
				}
			}()
			call()
		}()
	}
}

// What a source keeps is left as it was, and so are its lists' spare rooms.
func TestSourcesAreLeftAsTheyWere(t *testing.T) {
	f := small()
	tree, s := planted(t, f, with(branch(f, "d", "m"), 0, alone(leaf("a=1")), alone(leaf("g=1", "h=2")), alone(leaf("m=1"))))
	was := map[uint32]api.Node{}
	for no, n := range s.nodes {
		n.Pairs = append(append(make([]api.Pair, 0, 9), n.Pairs...), api.Pair{Key: "spare"})[:len(n.Pairs)]
		n.Seps = append(append(make([]string, 0, 9), n.Seps...), "spare")[:len(n.Seps)]
		n.Kids = append(append(make([]api.Kid, 0, 9), n.Kids...), api.Kid{Page: 77})[:len(n.Kids)]
		s.nodes[no] = n
		was[no] = node.Copy(stretched(n))
	}
	proved(t, tree, keyRange{"", ""})
	if _, e := span.Touched(tree, "", ""); e != api.OK {
		t.Error(e)
	}
	for no, n := range s.nodes {
		if !node.Same(stretched(n), was[no]) {
			t.Errorf("the node %d is another one: %v", no, stretched(n))
		}
	}
}

// stretched is a node with the room behind its lists.
func stretched(n api.Node) api.Node {
	return api.Node{Pairs: n.Pairs[:cap(n.Pairs)], Seps: n.Seps[:cap(n.Seps)], Kids: n.Kids[:cap(n.Kids)]}
}
