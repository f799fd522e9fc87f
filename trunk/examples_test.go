package trunk_test

import (
	"slices"
	"testing"

	"heartwood/api"
	"heartwood/node"
	"heartwood/page"
	"heartwood/trunk"
)

// example is the chapter's: the leaves L1 and L2, and the branch B of them.
type example struct {
	l1, l2, b api.Node
}

func sumOf(t *testing.T, n api.Node) api.Digest {
	t.Helper()
	d, e := node.Sum(small(), n)
	if e != api.OK {
		t.Fatal(e)
	}
	return d
}

func newExample(t *testing.T) example {
	t.Helper()
	l1 := api.Node{Pairs: []api.Pair{{Key: "a", Val: "1"}, {Key: "c", Val: "3"}}}
	l2 := api.Node{Pairs: []api.Pair{{Key: "m", Val: "5"}}}
	b := api.Node{Seps: []string{"m"}, Kids: []api.Kid{{Page: 2, Sum: sumOf(t, l1)}, {Page: 3, Sum: sumOf(t, l2)}}}
	return example{l1, l2, b}
}

// sheet is the page of a node.
func sheet(t *testing.T, f api.Frame, no uint32, n api.Node) api.Page {
	t.Helper()
	s, e := node.Pack(f, n)
	if e != api.OK {
		t.Fatal(e)
	}
	kind := api.PageLeaf
	if len(n.Kids) > 0 {
		kind = api.PageBranch
	}
	return api.Page{Kind: kind, No: no, Version: 1, Body: s}
}

// shelved is a tree over a shelf of these nodes, from the page 2 on.
func shelved(t *testing.T, r api.Root, nodes ...api.Node) *trunk.Tree {
	t.Helper()
	var pages []api.Page
	for i, n := range nodes {
		pages = append(pages, sheet(t, small(), uint32(i)+2, n))
	}
	shelf, e := page.NewShelf(small(), pages...)
	if e != api.OK {
		t.Fatal(e)
	}
	s, e := trunk.Over(small(), shelf)
	if e != api.OK {
		t.Fatal(e)
	}
	return tree(t, small(), s, r)
}

func TestExamplesOfKeys(t *testing.T) {
	x := newExample(t)
	tr := shelved(t, api.Root{Page: 4, Sum: sumOf(t, x.b), Count: 3}, x.l1, x.l2, x.b)
	for _, c := range []struct{ key, val string }{{"a", "1"}, {"b", ""}, {"", ""}, {"z", ""}} {
		if v, is, e := tr.Get(c.key); v != c.val || is != (c.val != "") || e != api.OK {
			t.Errorf("Get %q: %q %v %v", c.key, v, is, e)
		}
	}
	for _, c := range []struct{ key, want, val string }{{"b", "a", "1"}, {"l", "c", "3"}, {"m", "m", "5"}, {"", "", ""}} {
		if p, is, e := tr.Floor(c.key); p != (api.Pair{Key: c.want, Val: c.val}) || is != (c.want != "") || e != api.OK {
			t.Errorf("Floor %q: %v %v %v", c.key, p, is, e)
		}
	}
	for _, c := range []struct{ key, want, val string }{{"b", "c", "3"}, {"d", "m", "5"}, {"n", "", ""}} {
		if p, is, e := tr.Ceil(c.key); p != (api.Pair{Key: c.want, Val: c.val}) || is != (c.want != "") || e != api.OK {
			t.Errorf("Ceil %q: %v %v %v", c.key, p, is, e)
		}
	}
}

func TestExamplesOfNodes(t *testing.T) {
	x := newExample(t)
	tr := shelved(t, api.Root{Page: 4, Sum: sumOf(t, x.b), Count: 3}, x.l1, x.l2, x.b)
	for _, c := range []struct {
		way  []int
		want api.Node
		e    api.Errno
	}{{nil, x.b, api.OK}, {[]int{1}, x.l2, api.OK}, {[]int{2}, api.Node{}, api.ErrWay}, {[]int{0, 0}, api.Node{}, api.ErrWay}} {
		if n, e := tr.At(c.way...); !node.Same(n, c.want) || e != c.e {
			t.Errorf("At %v: %v %v", c.way, n, e)
		}
	}
	if l, e := tr.Pages(); !slices.Equal(l, []uint32{4, 2, 3}) || e != api.OK {
		t.Errorf("Pages: %v %v", l, e)
	}
	l, e := tr.Path("d")
	if len(l) != 2 || e != api.OK {
		t.Fatalf("Path: %v %v", l, e)
	}
	if !alike(l[0], api.Spot{Page: 4, Node: x.b}) || !alike(l[1], api.Spot{Way: []int{0}, Page: 2, Node: x.l1}) {
		t.Errorf("Path: %v", l)
	}
	if s, e := tr.Shape(); s != (api.Shape{}) || e != api.ErrTree {
		t.Errorf("Shape: %v %v", s, e)
	}
	if size := node.Size(small(), x.l1); size >= 331 || small().Least() != 331 {
		t.Errorf("L1's size is %d", size)
	}
}

func TestExamplesOfRoots(t *testing.T) {
	x := newExample(t)
	empty, e := node.Empty(small())
	if e != api.OK {
		t.Fatal(e)
	}
	tr := shelved(t, api.Root{Sum: empty}, x.l1, x.l2, x.b)
	if v, is, e := tr.Get("a"); v != "" || is || e != api.OK {
		t.Errorf("Get of the empty tree: %q %v %v", v, is, e)
	}
	if s, e := tr.Shape(); s != (api.Shape{}) || e != api.OK {
		t.Errorf("Shape of the empty tree: %v %v", s, e)
	}
	for s, e := range tr.Walk() {
		t.Errorf("Walk of the empty tree: %v %v", s, e)
	}
	if tr, e := trunk.New(small(), newWell(), api.Root{Sum: empty, Count: 1}); tr != nil || e != api.ErrArg {
		t.Errorf("New with a count and no page: %v", e)
	}
	if tr, e := trunk.New(small(), newWell(), api.Root{Page: 4, Sum: api.Digest{1, 2, 3}, Count: 3}); tr != nil || e != api.ErrArg {
		t.Errorf("New with a digest of three bytes: %v", e)
	}
	if tr, e := trunk.New(small(), nil, api.Root{Page: 4, Sum: sumOf(t, x.b), Count: 3}); tr != nil || e != api.ErrNil {
		t.Errorf("New without a source: %v", e)
	}
	tr = shelved(t, api.Root{Page: 4, Sum: sumOf(t, x.l1), Count: 3}, x.l1, x.l2, x.b)
	if v, is, e := tr.Get("a"); v != "" || is || e != api.ErrBad {
		t.Errorf("Get under another root digest: %q %v %v", v, is, e)
	}
	tr = shelved(t, api.Root{Page: 2, Sum: sumOf(t, x.l1), Count: 2}, x.l1, x.l2, x.b)
	if v, is, e := tr.Get("a"); v != "1" || !is || e != api.OK {
		t.Errorf("Get of a leaf alone: %q %v %v", v, is, e)
	}
	tr = shelved(t, api.Root{Page: 4, Sum: sumOf(t, x.b), Count: 3}, x.l2, x.l2, x.b)
	if v, is, e := tr.Get("a"); v != "" || is || e != api.ErrBad {
		t.Errorf("Get of a with L2 in the place of L1: %q %v %v", v, is, e)
	}
	if v, is, e := tr.Get("m"); v != "5" || !is || e != api.OK {
		t.Errorf("Get of m with L2 in the place of L1: %q %v %v", v, is, e)
	}
}
