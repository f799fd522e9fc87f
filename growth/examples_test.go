package growth_test

import (
	"strings"
	"testing"

	"heartwood/api"
	"heartwood/growth"
	"heartwood/node"
)

// The chapter's table: the frame {1024, 32}, over the empty tree.

func example(t *testing.T) *growth.Edit {
	t.Helper()
	f := api.Frame{Page: 1024, Width: 32}
	return edit(t, f, newWell(), emptyRoot(f))
}

// longKey are keys of 64 bytes, rising.
func longKey(i int) string { return strings.Repeat("k", 63) + string(rune('a'+i)) }

// six is the Edit of six pairs with keys of 64 bytes and values of 128.
func six(t *testing.T) *growth.Edit {
	t.Helper()
	x := example(t)
	for i := range 6 {
		if had, e := x.Put(longKey(i), strings.Repeat("v", 128)); had || e != api.OK {
			t.Fatal(i, had, e)
		}
	}
	return x
}

func TestExamplesOfNew(t *testing.T) {
	f := api.Frame{Page: 1024, Width: 32}
	for _, c := range []struct {
		what string
		f    api.Frame
		nil  bool
		r    api.Root
		want api.Errno
	}{
		{"a frame", api.Frame{Page: 1000, Width: 32}, false, emptyRoot(f), api.ErrArg},
		{"no source", f, true, emptyRoot(f), api.ErrNil},
		{"the page 1", f, false, api.Root{Page: 1, Sum: api.Digest{1}, Count: 1, Version: 1}, api.ErrArg},
		{"the zero root", f, false, api.Root{}, api.ErrArg},
	} {
		x, e := growth.New(c.f, newWell(), c.r)
		if c.nil {
			x, e = growth.New(c.f, nil, c.r)
		}
		if x != nil || e != c.want {
			t.Errorf("%s: %v %v", c.what, x, e)
		}
	}
}

func TestExamplesOfOnePair(t *testing.T) {
	x := example(t)
	for i, c := range []struct{ key, val string }{{"a", "1"}, {"a", "1"}, {"a", "2"}} {
		if had, e := x.Put(c.key, c.val); had != (i > 0) || e != api.OK {
			t.Error(c, had, e)
		}
	}
	if had, e := x.Delete("b"); had || e != api.OK {
		t.Error("Delete of b", had, e)
	}
	if x.Root().Count != 1 || x.Changed() != 1 || len(x.Freed()) != 0 {
		t.Error(x.Root(), x.Changed(), x.Freed())
	}
	if had, e := x.Delete("a"); !had || e != api.OK || x.Root() != emptyRoot(x.Frame()) || x.Changed() != 0 || len(x.Freed()) != 0 {
		t.Error("Delete of a", had, e, x.Root(), x.Changed())
	}
}

func TestExamplesOfSixPairs(t *testing.T) {
	x := six(t)
	tree, e := x.Tree()
	if e != api.OK {
		t.Fatal(e)
	}
	s, e := tree.Shape()
	if e != api.OK || s.Height != 2 || s.Leaves != 2 || s.Branches != 1 || s.Count != 6 || x.Changed() != 3 {
		t.Error(s, e, x.Changed())
	}
	pages, root, e := x.Lay(1, []uint32{2, 3, 4})
	if e != api.OK || len(pages) != 3 || root != (api.Root{Page: 4, Sum: x.Root().Sum, Count: 6, Version: 1}) {
		t.Fatal(len(pages), root, e)
	}
	for i, p := range pages {
		n, e := node.Unpack(x.Frame(), p.Body)
		if e != api.OK || p.No != uint32(2+i) || p.Version != 1 {
			t.Error(i, p.No, p.Version, e)
		}
		if i < 2 && (p.Kind != api.PageLeaf || len(n.Pairs) != 3 || n.Pairs[0].Key != longKey(3*i)) {
			t.Error("a leaf", i, p.Kind, n)
		}
		if i == 2 && (p.Kind != api.PageBranch || len(n.Kids) != 2 || n.Kids[0].Page != 2 || n.Kids[1].Page != 3 || n.Seps[0] != longKey(3)) {
			t.Error("the branch", p.Kind, n)
		}
	}
	for _, c := range []struct {
		version uint64
		at      []uint32
	}{{1, []uint32{2, 3}}, {0, []uint32{2, 3, 4}}, {1, []uint32{2, 3, 3}}, {1, []uint32{1, 2, 3}}} {
		if pages, root, e := x.Lay(c.version, c.at); pages != nil || root != (api.Root{}) || e != api.ErrArg {
			t.Error(c, len(pages), root, e)
		}
	}
}

func TestExamplesOfLengths(t *testing.T) {
	x := example(t)
	if had, e := x.Put("a", strings.Repeat("v", 129)); had || e != api.ErrArg {
		t.Error(had, e)
	}
	if had, e := x.Put("", "v"); had || e != api.ErrArg {
		t.Error(had, e)
	}
	if had, e := x.Delete(strings.Repeat("k", 65)); had || e != api.ErrArg {
		t.Error(had, e)
	}
}
