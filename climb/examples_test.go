package climb_test

import (
	"iter"
	"slices"
	"testing"

	"heartwood/api"
	"heartwood/climb"
	"heartwood/node"
	"heartwood/page"
	"heartwood/trunk"
)

// listed are the pairs that an iterator tells, each as key=value, and an error as its number.
func listed(seq iter.Seq2[api.Pair, api.Errno]) []string {
	var l []string
	for p, e := range seq {
		if e != api.OK {
			l = append(l, p.Key+p.Val+e.Error())
			continue
		}
		l = append(l, p.Key+"="+p.Val)
	}
	return l
}

// words are pairs, each as key=value.
func words(pairs []api.Pair) []string {
	var l []string
	for _, p := range pairs {
		l = append(l, p.Key+"="+p.Val)
	}
	return l
}

// shelved is the chapter's tree on the pages of a shelf.
func shelved(t *testing.T, f api.Frame) *trunk.Tree {
	t.Helper()
	leaf := api.Node{Pairs: []api.Pair{{Key: "b", Val: "1"}, {Key: "d", Val: "2"}, {Key: "f", Val: "3"}}}
	body, e := node.Pack(f, leaf)
	sum, g := node.Sum(f, leaf)
	if e != api.OK || g != api.OK {
		t.Fatal(e, g)
	}
	shelf, e := page.NewShelf(f, api.Page{Kind: api.PageLeaf, No: 2, Version: 1, Body: body})
	if e != api.OK {
		t.Fatal(e)
	}
	s, e := trunk.Over(f, shelf)
	if e != api.OK {
		t.Fatal(e)
	}
	return tree(t, f, s, api.Root{Page: 2, Sum: sum, Count: 3, Version: 1})
}

// example are trees of the chapter's pairs: of a leaf alone, on a page, and of leaves under a branch.
func example(t *testing.T) map[string]*trunk.Tree {
	t.Helper()
	two, _ := treeOf(t, small(), branchOf(4, leafOf(2, "b=1", "d=2"), "e", leafOf(3, "f=3")))
	three, _ := treeOf(t, small(), branchOf(5, leafOf(2, "b=1"), "c", leafOf(3, "d=2"), "f", leafOf(4, "f=3")))
	return map[string]*trunk.Tree{"a leaf": shelved(t, small()), "two leaves": two, "three leaves": three}
}

func TestExamplesOfRanges(t *testing.T) {
	for what, x := range example(t) {
		for _, c := range []struct {
			lo, hi string
			want   []string
		}{{"", "", []string{"b=1", "d=2", "f=3"}}, {"c", "f", []string{"d=2"}}, {"d", "d", nil}, {"g", "", nil}} {
			if l := listed(climb.Up(x, c.lo, c.hi)); !slices.Equal(l, c.want) {
				t.Errorf("%s: Up(%q, %q): %v", what, c.lo, c.hi, l)
			}
		}
		if l := listed(climb.Down(x, "", "e")); !slices.Equal(l, []string{"d=2", "b=1"}) {
			t.Errorf("%s: Down: %v", what, l)
		}
		if l, e := climb.List(x, "", "", 2); !slices.Equal(words(l), []string{"b=1", "d=2"}) || e != api.OK {
			t.Errorf("%s: List of 2: %v %v", what, l, e)
		}
		if l, e := climb.List(x, "", "", -1); len(l) != 0 || e != api.ErrArg {
			t.Errorf("%s: List of -1: %v %v", what, l, e)
		}
		if n, e := climb.Count(x, "b", ""); n != 3 || e != api.OK {
			t.Errorf("%s: Count: %d %v", what, n, e)
		}
	}
	if l, e := climb.List(nil, "", "", 0); len(l) != 0 || e != api.ErrNil {
		t.Errorf("List of no tree: %v %v", l, e)
	}
}

// stands complains, if a cursor does not stand at a pair, told as key=value ("": at none), with that place.
func stands(t *testing.T, what string, c *climb.Cursor, want string, place ...int) {
	t.Helper()
	p, is := c.Pair()
	due := pairOf(want)
	if p != due || is != (want != "") {
		t.Errorf("%s: stands at %v %v, and not at %q", what, p, is, want)
	}
	if l := c.Place(); !slices.Equal(l, place) {
		t.Errorf("%s: its place is %v, and not %v", what, l, place)
	}
}

func TestExamplesOfCursors(t *testing.T) {
	x := shelved(t, small())
	c, e := climb.New(x)
	if c == nil || e != api.OK {
		t.Fatal(e)
	}
	does := func(what string, e, due api.Errno, want string, place ...int) {
		t.Helper()
		if e != due {
			t.Errorf("%s: %v", what, e)
		}
		stands(t, what, c, want, place...)
	}
	does("New", e, api.OK, "")
	does("Next of a new one", c.Next(), api.ErrState, "")
	does("Seek c", c.Seek("c"), api.OK, "d=2", 1)
	does("Next", c.Next(), api.OK, "f=3", 2)
	does("Next past the last", c.Next(), api.OK, "")
	does("Back from none", c.Back(), api.ErrState, "")
	does("Last", c.Last(), api.OK, "f=3", 2)
	does("Back", c.Back(), api.OK, "d=2", 1)
	does("First", c.First(), api.OK, "b=1", 0)
	does("Back past the first", c.Back(), api.OK, "")
}
