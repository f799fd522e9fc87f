package span_test

import (
	"slices"
	"testing"

	"heartwood/api"
	"heartwood/node"
	"heartwood/pack"
	"heartwood/page"
	"heartwood/span"
	"heartwood/trunk"
)

// example is chapter 10's tree T, with the plain forms of its branch and its two leaves.
type example struct {
	tree    *trunk.Tree
	sum     api.Digest
	n, p, q string
}

func newExample(t *testing.T) example {
	t.Helper()
	f := small()
	l1, l2 := leaf("a=1", "c=3"), leaf("m=5")
	b := api.Node{Seps: []string{"m"}, Kids: []api.Kid{{Page: 2, Sum: sumOf(t, f, l1)}, {Page: 3, Sum: sumOf(t, f, l2)}}}
	var pages []api.Page
	for i, n := range []api.Node{l1, l2, b} {
		s, e := node.Pack(f, n)
		if e != api.OK {
			t.Fatal(e)
		}
		kind := api.PageLeaf
		if i == 2 {
			kind = api.PageBranch
		}
		pages = append(pages, api.Page{Kind: kind, No: uint32(i) + 2, Version: 1, Body: s})
	}
	shelf, e := page.NewShelf(f, pages...)
	if e != api.OK {
		t.Fatal(e)
	}
	s, e := trunk.Over(f, shelf)
	if e != api.OK {
		t.Fatal(e)
	}
	sum := sumOf(t, f, b)
	return example{treeAt(t, f, s, api.Root{Page: 4, Sum: sum, Count: 3}), sum, plain(t, f, b), plain(t, f, l1), plain(t, f, l2)}
}

func TestExamplesOfProve(t *testing.T) {
	x := newExample(t)
	for _, c := range []struct {
		of   keyRange
		want string
	}{
		{keyRange{"", ""}, pack.Join(x.n, x.p, x.q)},
		{keyRange{"b", "d"}, pack.Join(x.n, x.p)},
		{keyRange{"m", ""}, pack.Join(x.n, x.q)},
		{keyRange{"d", "b"}, pack.Join(x.n, x.p)},
	} {
		if s, e := span.Prove(x.tree, c.of.lo, c.of.hi); s != c.want || e != api.OK {
			t.Errorf("Prove(T, %q): %x %v", c.of, s, e)
		}
	}
}

func TestExamplesOfRead(t *testing.T) {
	x, f := newExample(t), small()
	left := pack.Join(x.n, x.p)
	if l, e := span.Read(f, x.sum, "b", "d", left); !slices.Equal(l, []api.Pair{{Key: "c", Val: "3"}}) || e != api.OK {
		t.Errorf("Read: %v %v", l, e)
	}
	for _, c := range []struct {
		of    keyRange
		proof string
	}{
		{keyRange{"b", "n"}, left},
		{keyRange{"b", "d"}, pack.Join(x.n, x.p, x.q)},
		{keyRange{"b", "d"}, pack.Join(x.n)},
		{keyRange{"b", "d"}, pack.Join(x.n, x.q)},
		{keyRange{"b", "d"}, ""},
	} {
		if l, e := span.Read(f, x.sum, c.of.lo, c.of.hi, c.proof); l != nil || e != api.ErrProof {
			t.Errorf("Read of %q, %x: %v %v", c.of, c.proof, l, e)
		}
	}
	empty, e := node.Empty(f)
	if e != api.OK {
		t.Fatal(e)
	}
	if l, e := span.Read(f, empty, "", "", pack.Join("\x01\x00")); l != nil || e != api.OK {
		t.Errorf("Read of the empty tree: %v %v", l, e)
	}
}

func TestExampleOfTouched(t *testing.T) {
	x := newExample(t)
	if s, e := span.Touched(x.tree, "", ""); s != (api.Shape{Height: 2, Leaves: 2, Branches: 1, Count: 3}) || e != api.OK {
		t.Errorf("Touched: %v %v", s, e)
	}
}
