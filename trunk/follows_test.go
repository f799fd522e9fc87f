package trunk_test

import (
	"fmt"
	"math/bits"
	"math/rand"
	"slices"
	"testing"

	"heartwood/api"
	"heartwood/node"
	"heartwood/sums"
	"heartwood/trunk"
)

// walked answers all that Walk tells, and complains of an error.
func walked(t *testing.T, x *trunk.Tree) []api.Spot {
	t.Helper()
	var l []api.Spot
	for s, e := range x.Walk() {
		if e != api.OK {
			t.Fatal(e)
		}
		l = append(l, s)
	}
	return l
}

// TestOneTree: P10.8, of trees whose Shape is OK, by what they answer alone.
func TestOneTree(t *testing.T) {
	for i, f := range frames() {
		t.Run(fmt.Sprint(f), func(t *testing.T) {
			t.Parallel()
			r := rand.New(rand.NewSource(int64(200 + i)))
			for _, many := range []int{1, 7, 30, 120} {
				x, _ := treeOf(t, f, grown(r, f, somePairs(r, f, many, r.Intn(2) == 0), counter(r)))
				shape, e := x.Shape()
				if e != api.OK {
					t.Fatal(e)
				}
				oneTree(t, x, shape)
			}
		})
	}
}

func oneTree(t *testing.T, x *trunk.Tree, shape api.Shape) {
	t.Helper()
	var pairs []api.Pair
	sum := map[string]api.Digest{"": x.Root().Sum}
	for _, s := range walked(t, x) {
		if d, e := node.Sum(x.Frame(), s.Node); e != api.OK || d != sum[named(s.Way)] {
			t.Errorf("the node of %v has another digest than it is named by", s.Way)
		}
		for i, k := range s.Node.Kids {
			sum[named(append(slices.Clone(s.Way), i))] = k.Sum
		}
		if len(s.Node.Kids) > 0 {
			continue
		}
		pairs = append(pairs, s.Node.Pairs...)
		l, e := x.Path(s.Node.Pairs[0].Key)
		if len(l) != shape.Height || e != api.OK || !alike(l[len(l)-1], s) {
			t.Errorf("the path to %v: %d nodes, %v", s.Way, len(l), e)
		}
	}
	if uint64(len(pairs)) != shape.Count || !slices.IsSortedFunc(pairs, func(a, b api.Pair) int {
		if a.Key < b.Key {
			return -1
		}
		return 1
	}) {
		t.Errorf("the pairs do not rise, or are not %d", shape.Count)
	}
	for i, p := range pairs {
		if v, is, e := x.Get(p.Key); v != p.Val || !is || e != api.OK {
			t.Errorf("Get(%q): %q %v %v", p.Key, v, is, e)
		}
		// Between a key and the next one there is none.
		between := p.Key + "\x00"
		next := api.Pair{}
		if i+1 < len(pairs) {
			next = pairs[i+1]
		}
		if next.Key == between {
			continue
		}
		if v, is, e := x.Get(between); v != "" || is || e != api.OK {
			t.Errorf("Get(%q): %q %v %v", between, v, is, e)
		}
		if q, is, e := x.Floor(between); q != p || !is || e != api.OK {
			t.Errorf("Floor(%q): %q %v %v", between, q, is, e)
		}
		if q, is, e := x.Ceil(between); q != next || is != (next.Key != "") || e != api.OK {
			t.Errorf("Ceil(%q): %q %v %v", between, q, is, e)
		}
	}
}

// renumbered is the same tree under other numbers.
func renumbered(w *twig, next func() uint32) *twig {
	out := &twig{no: next(), pairs: w.pairs, seps: w.seps}
	for _, k := range w.kids {
		out.kids = append(out.kids, renumbered(k, next))
	}
	return out
}

// placeless is a node without its kids' Pages.
func placeless(n api.Node) api.Node {
	n = node.Copy(n)
	for i := range n.Kids {
		n.Kids[i].Page = 0
	}
	return n
}

// TestWhoElse: P10.9, of one tree that lies in two places.
func TestWhoElse(t *testing.T) {
	r := rand.New(rand.NewSource(9))
	for _, f := range frames() {
		w := grown(r, f, somePairs(r, f, 60, true), counter(r))
		x, _ := treeOf(t, f, w)
		y, _ := treeOf(t, f, renumbered(w, counter(r)))
		if x.Root().Sum != y.Root().Sum {
			t.Fatalf("%v: another root digest", f)
		}
		one, two := walked(t, x), walked(t, y)
		if len(one) != len(two) {
			t.Fatalf("%v: %d nodes, and %d", f, len(one), len(two))
		}
		for i := range one {
			if !slices.Equal(one[i].Way, two[i].Way) || !node.Same(placeless(one[i].Node), placeless(two[i].Node)) {
				t.Errorf("%v: the nodes of %v", f, one[i].Way)
			}
		}
	}
}

// textOfNode is the text that a node's digest is made of.
func textOfNode(t *testing.T, f api.Frame, n api.Node) string {
	t.Helper()
	plain, e := node.Plain(f, n)
	tag := "leaf"
	if len(n.Kids) > 0 {
		tag = "branch"
	}
	text, g := sums.Text(tag, plain)
	if e != api.OK || g != api.OK {
		t.Fatal(e, g)
	}
	return text
}

// TestOrAClash: P10.9, of two trees that are unlike under one root: the first nodes of one way that are unlike are a clash.
func TestOrAClash(t *testing.T) {
	f := api.Frame{Page: 1024, Width: 1}
	w := deep()
	x, _ := treeOf(t, f, w)
	found := 0
	for i := range 5000 {
		other := deep()
		other.kids[0].kids[1].pairs[0].Val = fmt.Sprint("other", i)
		y, _ := treeOf(t, f, other)
		if y.Root().Sum != x.Root().Sum {
			continue
		}
		found++
		one, two := walked(t, x), walked(t, y)
		for i := range one {
			a, b := placeless(one[i].Node), placeless(two[i].Node)
			if node.Same(a, b) {
				continue
			}
			// All above are alike: so both are named by one digest.
			if !sums.Clash(f.Width, textOfNode(t, f, a), textOfNode(t, f, b)) {
				t.Errorf("the nodes of %v are no clash", one[i].Way)
			}
			break
		}
	}
	if found == 0 {
		t.Error("no two trees of one root digest")
	}
}

// TestNoPageTwice: P10.10.
func TestNoPageTwice(t *testing.T) {
	r := rand.New(rand.NewSource(10))
	for _, f := range frames() {
		for _, many := range []int{1, 9, 40, 150} {
			x, _ := treeOf(t, f, grown(r, f, somePairs(r, f, many, true), counter(r)))
			l, e := x.Pages()
			shape, g := x.Shape()
			if e != api.OK || g != api.OK {
				t.Fatal(e, g)
			}
			slices.Sort(l)
			if len(slices.Compact(l)) != shape.Leaves+shape.Branches {
				t.Errorf("%v: a number stands twice in %v", f, l)
			}
			if shape.Height > bits.Len(uint(shape.Leaves)) {
				t.Errorf("%v: %v", f, shape)
			}
		}
	}
	// One leaf under two kids, or under a kid and a kid's kid, is between the bounds of one of them at most.
	leaf := func() *twig { return leafOf(11, "d=1") }
	for _, w := range []*twig{
		branchOf(30, leaf(), "f", leaf()),
		branchOf(30, leaf(), "b", leaf()),
		branchOf(30, leafOf(12, "a=1"), "b", leaf(), "f", leaf()),
		branchOf(30, leaf(), "f", branchOf(20, leaf(), "h", leafOf(12, "i=1"))),
		branchOf(30, branchOf(20, leafOf(12, "a=1"), "c", leaf()), "e", branchOf(20, leafOf(12, "a=1"), "c", leaf())),
	} {
		x, _ := treeOf(t, small(), w)
		if l, e := x.Pages(); len(l) != 0 || e != api.ErrBad {
			t.Errorf("Pages: %v %v", l, e)
		}
	}
}

// TestKeepsNothing: P10.11, each call is answered out of what the source has then.
func TestKeepsNothing(t *testing.T) {
	w := deep()
	s, root := laid(small(), w)
	x := tree(t, small(), s, root)
	ask := func() [4]api.Errno {
		_, _, a := x.Get("h")
		_, b := x.At(0, 1)
		_, c := x.Pages()
		_, _, d := x.Ceil("e")
		return [4]api.Errno{a, b, c, d}
	}
	fine := [4]api.Errno{}
	if got := ask(); got != fine {
		t.Errorf("as it was laid: %v", got)
	}
	was := s.nodes[12]
	s.nodes[12] = roomy(api.Node{Pairs: []api.Pair{{Key: "h", Val: "9"}}})
	if got := ask(); got != [4]api.Errno{api.ErrBad, api.ErrBad, api.ErrBad, api.ErrBad} {
		t.Errorf("with another leaf: %v", got)
	}
	s.nodes[12] = was
	if got := ask(); got != fine {
		t.Errorf("with the leaf again: %v", got)
	}
	s.errs[30] = api.ErrOff
	if got := ask(); got != [4]api.Errno{api.ErrOff, api.ErrOff, api.ErrOff, api.ErrOff} {
		t.Errorf("without power: %v", got)
	}
	clear(s.errs)
	if got := ask(); got != fine {
		t.Errorf("with power: %v", got)
	}
	// Kids that have come to lie elsewhere are found there: the digest does not say where.
	n := s.nodes[10]
	n.Kids[1].Page = 99
	s.nodes[99] = s.nodes[12]
	delete(s.nodes, 12)
	if got := ask(); got != fine {
		t.Errorf("with the leaf elsewhere: %v", got)
	}
	// What was answered stays, whatever becomes of the source's lists.
	path, e := x.Path("h")
	if e != api.OK {
		t.Fatal(e)
	}
	for no := range s.nodes {
		scribble(api.Spot{Node: s.nodes[no]})
	}
	if len(path) != 3 || path[2].Page != 99 || path[2].Node.Pairs[0] != (api.Pair{Key: "h", Val: "3"}) || path[0].Node.Seps[0] != "p" || path[1].Node.Kids[1].Page != 99 {
		t.Errorf("what was answered has changed: %v", path)
	}
}
