package trunk_test

import (
	"slices"
	"testing"

	"heartwood/api"
	"heartwood/disk"
	"heartwood/node"
	"heartwood/page"
	"heartwood/trunk"
)

// heap are pages that write down what they are asked, and answer errors of their own.
type heap struct {
	pages map[uint32]api.Page
	errs  map[uint32]api.Errno
	asked []uint32
}

func (h *heap) Page(no uint32) (api.Page, api.Errno) {
	h.asked = append(h.asked, no)
	if e := h.errs[no]; e != api.OK {
		return h.pages[no], e
	}
	return h.pages[no], api.OK
}

func TestOverRefuses(t *testing.T) {
	for _, f := range wrongFrames() {
		if s, e := trunk.Over(f, &heap{}); s != nil || e != api.ErrArg {
			t.Errorf("Over of %v: %v %v", f, s, e)
		}
		if s, e := trunk.Over(f, nil); s != nil || e != api.ErrArg {
			t.Errorf("Over of %v and no pages: %v %v", f, s, e)
		}
	}
	for _, f := range frames() {
		if s, e := trunk.Over(f, nil); s != nil || e != api.ErrNil {
			t.Errorf("Over of no pages in %v: %v %v", f, s, e)
		}
		h := &heap{}
		if s, e := trunk.Over(f, h); s == nil || e != api.OK || h.asked != nil {
			t.Errorf("Over in %v: %v %v, asked for %v", f, s, e, h.asked)
		}
	}
}

// overOne tells what a source answers of the number 5, where this page stands.
func overOne(t *testing.T, f api.Frame, p api.Page) (api.Node, api.Errno) {
	t.Helper()
	h := &heap{pages: map[uint32]api.Page{5: p}}
	s, e := trunk.Over(f, h)
	if e != api.OK {
		t.Fatal(e)
	}
	n, e := s.Node(5)
	if !slices.Equal(h.asked, []uint32{5}) {
		t.Errorf("asked for %v", h.asked)
	}
	return n, e
}

func TestOverTellsNodes(t *testing.T) {
	for _, f := range frames() {
		leaf := api.Node{Pairs: []api.Pair{{Key: "a", Val: "1"}, {Key: "c"}}}
		branch := api.Node{Seps: []string{"m"}, Kids: []api.Kid{{Page: 2, Sum: api.Digest{1}}, {Page: 1<<31 - 1}}}
		for _, n := range []api.Node{leaf, branch} {
			p := sheet(t, f, 5, n)
			if got, e := overOne(t, f, p); !node.Same(got, n) || e != api.OK {
				t.Errorf("%v: %v %v", n, got, e)
			}
			// Nobody asks what number and version the page bears: it is for the pages to see to that.
			p.No, p.Version = 9, 0
			if got, e := overOne(t, f, p); !node.Same(got, n) || e != api.OK {
				t.Errorf("%v, under another number: %v %v", n, got, e)
			}
		}
	}
}

func TestOverRefusesPages(t *testing.T) {
	f := small()
	leaf := sheet(t, f, 5, api.Node{Pairs: []api.Pair{{Key: "a", Val: "1"}}})
	branch := sheet(t, f, 5, api.Node{Seps: []string{"m"}, Kids: []api.Kid{{Page: 2}, {Page: 3}}})
	for _, kind := range []api.PageKind{0, api.PageLeaf, api.PageBranch, api.PageList, 4, 255} {
		for _, p := range []api.Page{leaf, branch} {
			fits := p.Kind == kind
			p.Kind = kind
			n, e := overOne(t, f, p)
			if fits && e == api.OK {
				continue
			}
			if fits || e != api.ErrBad || !node.Same(n, api.Node{}) {
				t.Errorf("the body %q in the kind %d: %v %v", p.Body, kind, n, e)
			}
		}
	}
	for _, body := range []string{"", "\x01", "\x01\x00", "\x02\x00", "\x03\x01\x01a\x00", leaf.Body + "\x00", leaf.Body[1:], branch.Body[:len(branch.Body)-1], "\x01\x02\x01b\x00\x01a\x00"} {
		for _, kind := range []api.PageKind{api.PageLeaf, api.PageBranch, api.PageList} {
			if n, e := overOne(t, f, api.Page{Kind: kind, No: 5, Version: 1, Body: body}); e != api.ErrBad || !node.Same(n, api.Node{}) {
				t.Errorf("the body %q in the kind %d: %v %v", body, kind, n, e)
			}
		}
	}
	// A body of another frame: its digests are longer.
	if n, e := overOne(t, api.Frame{Page: 1024, Width: 3}, branch); e != api.ErrBad || !node.Same(n, api.Node{}) {
		t.Errorf("a branch of another width: %v %v", n, e)
	}
}

func TestOverHandsErrorsOn(t *testing.T) {
	f := small()
	good := sheet(t, f, 5, api.Node{Pairs: []api.Pair{{Key: "a", Val: "1"}}})
	for _, due := range []api.Errno{api.ErrNil, api.ErrIO, api.ErrOff, api.ErrCrc, api.ErrNone, -7, 1 << 40} {
		// The error goes ahead of what is wrong with the page, and nothing is told of a page that is told beside it.
		for _, p := range []api.Page{good, {}} {
			h := &heap{pages: map[uint32]api.Page{5: p}, errs: map[uint32]api.Errno{5: due}}
			s, _ := trunk.Over(f, h)
			if n, e := s.Node(5); e != due || !node.Same(n, api.Node{}) {
				t.Errorf("%v: %v %v", due, n, e)
			}
		}
	}
	s, _ := trunk.Over(f, (*page.Shelf)(nil))
	if n, e := s.Node(5); e != api.ErrNil || !node.Same(n, api.Node{}) {
		t.Errorf("a nil shelf: %v %v", n, e)
	}
}

func TestOverFollowsItsPages(t *testing.T) {
	f := small()
	one := api.Node{Pairs: []api.Pair{{Key: "a", Val: "1"}}}
	two := api.Node{Pairs: []api.Pair{{Key: "b", Val: "2"}}}
	shelf, _ := page.NewShelf(f, sheet(t, f, 5, one))
	s, _ := trunk.Over(f, shelf)
	n, e := s.Node(5)
	if !node.Same(n, one) || e != api.OK {
		t.Errorf("%v %v", n, e)
	}
	scribble(api.Spot{Node: n})
	if n, e := s.Node(5); !node.Same(n, one) || e != api.OK {
		t.Errorf("behind a scribble: %v %v", n, e)
	}
	shelf.Lay(sheet(t, f, 5, two))
	if n, e := s.Node(5); !node.Same(n, two) || e != api.OK {
		t.Errorf("another page: %v %v", n, e)
	}
	if n, e := s.Node(6); !node.Same(n, api.Node{}) || e != api.ErrNone {
		t.Errorf("no page: %v %v", n, e)
	}
}

func TestOverDisk(t *testing.T) {
	f := small()
	w := branchOf(4, leafOf(2, "a=1", "c=3"), "m", leafOf(3, "m=5"))
	s, root := laid(f, w)
	d, e := disk.New(f.Page, 16)
	if e != api.OK || d.Grow(5) != api.OK {
		t.Fatal(e)
	}
	for no, n := range s.nodes {
		text, e := page.Write(f, sheet(t, f, no, n))
		if e != api.OK || d.Write(no, text) != api.OK {
			t.Fatal(e)
		}
	}
	sheets, _ := page.Over(f, d)
	over, _ := trunk.Over(f, sheets)
	x := tree(t, f, over, root)
	if v, is, e := x.Get("c"); v != "3" || !is || e != api.OK {
		t.Errorf("Get: %q %v %v", v, is, e)
	}
	if l, e := x.Pages(); !slices.Equal(l, []uint32{4, 2, 3}) || e != api.OK {
		t.Errorf("Pages: %v %v", l, e)
	}
	if d.Write(3, string(make([]byte, f.Page))) != api.OK {
		t.Fatal("Write")
	}
	if v, is, e := x.Get("c"); v != "3" || !is || e != api.OK {
		t.Errorf("Get beside a spoilt page: %q %v %v", v, is, e)
	}
	if v, is, e := x.Get("m"); v != "" || is || e != api.ErrCrc {
		t.Errorf("Get on a spoilt page: %q %v %v", v, is, e)
	}
	if d.Crash() != api.OK {
		t.Fatal("Crash")
	}
	if l, e := x.Pages(); l != nil || e != api.ErrOff {
		t.Errorf("Pages without power: %v %v", l, e)
	}
}

// TestTreeOverPages: what is wrong with a page is told where the way leads over it, and nowhere else.
func TestTreeOverPages(t *testing.T) {
	f := small()
	s, root := laid(f, branchOf(4, leafOf(2, "a=1", "c=3"), "m", leafOf(3, "m=5")))
	good := sheet(t, f, 2, s.nodes[2])
	for what, p := range map[string]api.Page{
		"a list":             {Kind: api.PageList, No: 2, Version: 1, Body: good.Body},
		"of a branch's kind": {Kind: api.PageBranch, No: 2, Version: 1, Body: good.Body},
		"a branch":           sheet(t, f, 2, s.nodes[4]),
		"another leaf":       sheet(t, f, 2, s.nodes[3]),
		"with a byte more":   {Kind: api.PageLeaf, No: 2, Version: 1, Body: good.Body + "\x00"},
		"without a body":     {Kind: api.PageLeaf, No: 2, Version: 1},
	} {
		shelf, e := page.NewShelf(f, p, sheet(t, f, 3, s.nodes[3]), sheet(t, f, 4, s.nodes[4]))
		if e != api.OK {
			t.Fatal(e)
		}
		over, _ := trunk.Over(f, shelf)
		x := tree(t, f, over, root)
		if v, is, e := x.Get("a"); v != "" || is || e != api.ErrBad {
			t.Errorf("%s: Get: %q %v %v", what, v, is, e)
		}
		if v, is, e := x.Get("m"); v != "5" || !is || e != api.OK {
			t.Errorf("%s: Get beside it: %q %v %v", what, v, is, e)
		}
		if l, e := x.Pages(); len(l) != 0 || e != api.ErrBad {
			t.Errorf("%s: Pages: %v %v", what, l, e)
		}
		shelf.Lay(good)
		if v, is, e := x.Get("a"); v != "1" || !is || e != api.OK {
			t.Errorf("%s: Get behind laying it anew: %q %v %v", what, v, is, e)
		}
	}
}
