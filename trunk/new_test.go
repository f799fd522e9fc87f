package trunk_test

import (
	"testing"

	"heartwood/api"
	"heartwood/node"
	"heartwood/trunk"
)

func TestNewRefuses(t *testing.T) {
	for _, f := range wrongFrames() {
		for _, s := range []trunk.Source{nil, newWell()} {
			for _, r := range []api.Root{{}, {Page: 4, Count: 3}} {
				if x, e := trunk.New(f, s, r); x != nil || e != api.ErrArg {
					t.Errorf("New of %v: %v", f, e)
				}
			}
		}
	}
	for _, f := range frames() {
		empty, _ := node.Empty(f)
		// Without a source, right roots and wrong ones alike: ErrNil stands ahead.
		for _, r := range []api.Root{{Sum: empty}, {Page: 4, Count: 3}, {}, {Count: 1}} {
			if x, e := trunk.New(f, nil, r); x != nil || e != api.ErrNil {
				t.Errorf("New without a source of %v: %v", r, e)
			}
		}
		other := empty
		other[0] ^= 1
		wrong := []api.Root{{}, {Sum: other}, {Sum: empty, Count: 1}, {Sum: empty, Count: 1 << 63}, {Page: 4, Sum: empty}, {Page: 1 << 31}, {Page: 4, Version: 1}}
		for at := f.Width; at < len(empty); at++ {
			loose, looseEmpty := api.Digest{1}, empty
			loose[at], looseEmpty[at] = 1, 0x80
			wrong = append(wrong, api.Root{Page: 4, Sum: loose, Count: 3}, api.Root{Sum: looseEmpty})
		}
		for _, r := range wrong {
			s := newWell()
			if x, e := trunk.New(f, s, r); x != nil || e != api.ErrArg || s.asked != nil {
				t.Errorf("New in %v of %v: %v", f, r, e)
			}
		}
	}
}

func TestNewTakes(t *testing.T) {
	for _, f := range frames() {
		empty, _ := node.Empty(f)
		full := api.Digest{}
		for i := range f.Width {
			full[i] = 0xff
		}
		// Which number, count and version it is, is not asked.
		for _, r := range []api.Root{{Sum: empty}, {Sum: empty, Version: 9}, {Page: 1, Sum: empty, Count: 1}, {Page: 4, Count: 3}, {Page: 1<<32 - 1, Sum: full, Count: 1<<64 - 1, Version: 1<<64 - 1}, {Page: 1 << 31, Sum: full, Count: 1}} {
			s := newWell()
			x, e := trunk.New(f, s, r)
			if x == nil || e != api.OK || s.asked != nil {
				t.Fatalf("New in %v of %v: %v, asked for %v", f, r, e, s.asked)
			}
			if x.Frame() != f || x.Root() != r || s.asked != nil {
				t.Errorf("Frame and Root: %v %v, and not %v %v", x.Frame(), x.Root(), f, r)
			}
		}
	}
}

// TestNodeIsAsTold: whatever it is, right or not, and of any number.
func TestNodeIsAsTold(t *testing.T) {
	f := small()
	s := newWell()
	s.nodes[7] = roomy(api.Node{Pairs: []api.Pair{{Key: "b"}, {Key: "a"}}, Seps: []string{"", "x"}, Kids: []api.Kid{{Page: 0, Sum: api.Digest{31: 1}}}})
	s.nodes[0] = roomy(api.Node{})
	s.nodes[1<<32-1] = roomy(api.Node{Pairs: []api.Pair{{Key: "a", Val: "1"}}})
	s.errs[9] = -5
	empty, _ := emptyTree(t, f)
	for _, x := range []*trunk.Tree{tree(t, f, s, api.Root{Page: 4, Count: 3}), tree(t, f, s, empty.Root())} {
		kept := s.kept()
		for no, want := range s.nodes {
			s.asked = nil
			n, e := x.Node(no)
			if !node.Same(n, want) || e != api.OK || len(s.asked) != 1 || s.asked[0] != no {
				t.Errorf("Node(%d): %v %v, asked for %v", no, n, e, s.asked)
			}
			scribble(api.Spot{Node: n})
			if !kept() {
				t.Errorf("Node(%d) shares memory with its source", no)
			}
		}
		for no, due := range map[uint32]api.Errno{9: -5, 8: api.ErrNone} {
			if n, e := x.Node(no); !node.Same(n, api.Node{}) || e != due {
				t.Errorf("Node(%d): %v %v", no, n, e)
			}
		}
	}
}

// half is a source that tells a node beside its error.
type half struct{}

func (half) Node(uint32) (api.Node, api.Errno) {
	return api.Node{Pairs: []api.Pair{{Key: "a", Val: "1"}}}, api.ErrIO
}

func TestNothingBesideAnError(t *testing.T) {
	x := tree(t, small(), half{}, api.Root{Page: 4, Count: 1})
	if n, e := x.Node(4); !node.Same(n, api.Node{}) || e != api.ErrIO {
		t.Errorf("Node: %v %v", n, e)
	}
	if n, e := x.At(); !node.Same(n, api.Node{}) || e != api.ErrIO {
		t.Errorf("At: %v %v", n, e)
	}
	if v, is, e := x.Get("a"); v != "" || is || e != api.ErrIO {
		t.Errorf("Get: %q %v %v", v, is, e)
	}
}

// TestNoTree makes every call of a nil Tree, and of such as New did not make.
func TestNoTree(t *testing.T) {
	w := leafOf(4, "a=1")
	s, root := laid(small(), w)
	left := tree(t, small(), s, root)
	left.Source = nil
	zero := trunk.Tree{}
	for what, x := range map[string]*trunk.Tree{"nil": nil, "zero": &zero, "with a source": {Source: s}, "without its source": left} {
		if x.Frame() != (api.Frame{}) || x.Root() != (api.Root{}) {
			t.Errorf("%s: Frame %v, Root %v", what, x.Frame(), x.Root())
		}
		if n, e := x.Node(4); !node.Same(n, api.Node{}) || e != api.ErrNil {
			t.Errorf("%s: Node: %v %v", what, n, e)
		}
		for _, way := range [][]int{nil, {0}, {-1}} {
			if n, e := x.At(way...); !node.Same(n, api.Node{}) || e != api.ErrNil {
				t.Errorf("%s: At %v: %v %v", what, way, n, e)
			}
		}
		for _, key := range []string{"", "a"} {
			if l, e := x.Path(key); len(l) != 0 || e != api.ErrNil {
				t.Errorf("%s: Path: %v %v", what, l, e)
			}
			if v, is, e := x.Get(key); v != "" || is || e != api.ErrNil {
				t.Errorf("%s: Get: %q %v %v", what, v, is, e)
			}
			if p, is, e := x.Floor(key); p != (api.Pair{}) || is || e != api.ErrNil {
				t.Errorf("%s: Floor: %v %v %v", what, p, is, e)
			}
			if p, is, e := x.Ceil(key); p != (api.Pair{}) || is || e != api.ErrNil {
				t.Errorf("%s: Ceil: %v %v %v", what, p, is, e)
			}
		}
		for s, e := range x.Walk() {
			t.Errorf("%s: Walk: %v %v", what, s, e)
		}
		if l, e := x.Pages(); len(l) != 0 || e != api.ErrNil {
			t.Errorf("%s: Pages: %v %v", what, l, e)
		}
		if s, e := x.Shape(); s != (api.Shape{}) || e != api.ErrNil {
			t.Errorf("%s: Shape: %v %v", what, s, e)
		}
	}
	if s.asked != nil {
		t.Errorf("asked for %v", s.asked)
	}
	// A tree may be another one's source; a nil one is one that answers ErrNil.
	x := tree(t, small(), (*trunk.Tree)(nil), root)
	if v, is, e := x.Get("a"); v != "" || is || e != api.ErrNil {
		t.Errorf("Get over a nil Tree: %q %v %v", v, is, e)
	}
	x = tree(t, small(), tree(t, small(), s, root), root)
	if v, is, e := x.Get("a"); v != "1" || !is || e != api.OK {
		t.Errorf("Get over a Tree: %q %v %v", v, is, e)
	}
}

// TestEmptyTree makes every call of it: no node is got, whatever its source would tell.
func TestEmptyTree(t *testing.T) {
	for _, f := range frames() {
		x, s := emptyTree(t, f)
		s.errs[0] = api.ErrIO
		y := newTrial(t, f, s, x.Root())
		y.whole()
		for _, way := range [][]int{{0}, {-1}, {1, 2, 3}, make([]int, 40)} {
			if e := y.at(way); e != api.ErrWay {
				t.Errorf("At %v: %v", way, e)
			}
		}
		if n, e := x.At(); !node.Same(n, api.Node{}) || e != api.OK {
			t.Errorf("At: %v %v", n, e)
		}
		for _, key := range []string{"", "a", "\xff"} {
			if l, e := x.Path(key); len(l) != 0 || e != api.OK {
				t.Errorf("Path: %v %v", l, e)
			}
			y.key(key)
		}
		if shape, e := x.Shape(); shape != (api.Shape{}) || e != api.OK || s.asked != nil {
			t.Errorf("Shape: %v %v, asked for %v", shape, e, s.asked)
		}
	}
}
