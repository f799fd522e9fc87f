package trunk_test

import (
	"slices"
	"strings"
	"testing"

	"heartwood/api"
	"heartwood/node"
)

// order is the numbers of deep's nodes in the order of Walk.
func order() []uint32 { return []uint32{30, 10, 11, 12, 13, 20, 21, 22} }

func TestWalkLeftEarly(t *testing.T) {
	x, s := treeOf(t, small(), deep())
	seq := x.Walk()
	if s.asked != nil {
		t.Errorf("asked for %v ahead of the walk", s.asked)
	}
	for many := 1; many <= len(order()); many++ {
		s.asked = nil
		var told []uint32
		for p, e := range seq {
			if e != api.OK {
				t.Fatal(e)
			}
			told = append(told, p.Page)
			if len(told) == many {
				break
			}
		}
		if !slices.Equal(told, order()[:many]) || !slices.Equal(s.asked, order()[:many]) {
			t.Errorf("left behind %d: %v, asked for %v", many, told, s.asked)
		}
	}
	s.asked = nil
	var told []uint32
	for p := range seq {
		told = append(told, p.Page)
	}
	if !slices.Equal(told, order()) || !slices.Equal(s.asked, order()) {
		t.Errorf("to the end: %v, asked for %v", told, s.asked)
	}
}

// TestWalkWithAnError: at each node in turn, told once, with nothing behind it.
func TestWalkWithAnError(t *testing.T) {
	for at, no := range order() {
		x, s := treeOf(t, small(), deep())
		s.errs[no] = api.ErrIO
		for range 2 {
			s.asked = nil
			var told []uint32
			var ends []api.Errno
			for p, e := range x.Walk() {
				if e != api.OK && !alike(p, api.Spot{}) {
					t.Errorf("a spot beside an error: %v", p)
				}
				told, ends = append(told, p.Page), append(ends, e)
			}
			last := len(told) - 1
			if last != at || ends[last] != api.ErrIO || !slices.Equal(told[:last], order()[:at]) || !slices.Equal(s.asked, order()[:at+1]) {
				t.Errorf("an error at %d: %v %v, asked for %v", at, told, ends, s.asked)
			}
		}
		s.asked = nil
		if l, e := x.Pages(); len(l) != 0 || e != api.ErrIO || !slices.Equal(s.asked, order()[:at+1]) {
			t.Errorf("Pages with an error at %d: %v %v", at, l, e)
		}
		// The tree is not well formed in any case, and that is told behind the walk's error.
		if p, e := x.Shape(); p != (api.Shape{}) || e != api.ErrIO {
			t.Errorf("Shape with an error at %d: %v %v", at, p, e)
		}
		// Left when the error is told: it is over.
		for _, e := range x.Walk() {
			if e != api.OK {
				break
			}
		}
	}
}

// TestWalkGetsEachInItsTurn: what the source has when a node's turn comes is what counts.
func TestWalkGetsEachInItsTurn(t *testing.T) {
	x, s := treeOf(t, small(), deep())
	var told []uint32
	var end api.Errno
	for p, e := range x.Walk() {
		told, end = append(told, p.Page), e
		if p.Page == 12 {
			s.errs[10], s.errs[12] = api.ErrIO, api.ErrIO // these have had their turn
			s.errs[21] = api.ErrOff
		}
	}
	if !slices.Equal(told, []uint32{30, 10, 11, 12, 13, 20, 0}) || end != api.ErrOff {
		t.Errorf("%v %v", told, end)
	}
	// A walk within a walk of one tree: each goes its own way.
	clear(s.errs)
	many := 0
	seq := x.Walk()
	for range seq {
		for range seq {
			many++
		}
	}
	if many != len(order())*len(order()) {
		t.Errorf("%d spots", many)
	}
}

// fat is a leaf of a size between the least and the room of the small frame.
func fat(no uint32, key string) *twig {
	w := &twig{no: no}
	for _, c := range "abc" {
		w.pairs = append(w.pairs, api.Pair{Key: key + string(c), Val: strings.Repeat("v", 128)})
	}
	return w
}

// thick is a branch of six leaves whose separators are long enough, that a branch of them is not thin.
func thick(no uint32, key string) *twig {
	w := &twig{no: no}
	long := strings.Repeat("z", 57)
	for i, c := range "abcdef" {
		w.kids = append(w.kids, fat(no+uint32(i)+1, key+string(c)+long))
		if i > 0 {
			w.seps = append(w.seps, key+string(c)+long)
		}
	}
	return w
}

// TestShapeAlone: each way in which a tree is not well formed, alone.
func TestShapeAlone(t *testing.T) {
	f := small()
	for _, c := range []struct {
		what string
		w    *twig
		more uint64 // that the root counts
		e    api.Errno
	}{
		{"a leaf alone, thin as it is", leafOf(2, "a=1"), 0, api.OK},
		{"a leaf alone, with one more in the count", leafOf(2, "a=1"), 1, api.ErrTree},
		{"two leaves", branchOf(2, fat(3, "a"), "m", fat(4, "n")), 0, api.OK},
		{"two leaves, with one fewer in the count", branchOf(2, fat(3, "a"), "m", fat(4, "n")), 1<<64 - 1, api.ErrTree},
		{"a thin leaf on the left", branchOf(2, leafOf(3, "a=1"), "m", fat(4, "n")), 0, api.ErrTree},
		{"a thin leaf on the right", branchOf(2, fat(3, "a"), "m", leafOf(4, "n=1")), 0, api.ErrTree},
		{"three levels", branchOf(2, thick(10, "a"), "m", thick(20, "n")), 0, api.OK},
		{"a thin branch", branchOf(2, thick(10, "a"), "m", branchOf(20, fat(21, "n"), "o", fat(22, "p"))), 0, api.ErrTree},
		{"a deeper leaf on the left", branchOf(2, thick(10, "a"), "m", fat(20, "n")), 0, api.ErrTree},
		{"a deeper leaf on the right", branchOf(2, fat(20, "a"), "m", thick(10, "n")), 0, api.ErrTree},
		{"a deeper leaf in the midst", branchOf(2, fat(20, "a"), "m", thick(10, "n"), "y", fat(30, "z")), 0, api.ErrTree},
	} {
		s, root := laid(f, c.w)
		root.Count += c.more
		y := newTrial(t, f, s, root)
		if y.walk() != api.OK || y.pages() != api.OK {
			t.Errorf("%s: Walk", c.what)
		}
		if e := y.shape(); e != c.e {
			t.Errorf("%s: %v", c.what, e)
		}
	}
}

// sized is a leaf of just that size: pairs of some length as long as it takes, and a last one that fills it up.
func sized(f api.Frame, no uint32, key string, size int) *twig {
	w := &twig{no: no}
	for {
		p := api.Pair{Key: key + string(rune('a'+len(w.pairs))), Val: strings.Repeat("v", f.MaxVal())}
		with := append(slices.Clone(w.pairs), p)
		last := &with[len(with)-1]
		// A value that is a byte shorter takes a byte less, or two: so it does not go by what is wanted by more than one.
		for node.Size(f, api.Node{Pairs: with}) > size && last.Val != "" {
			last.Val = last.Val[:len(last.Val)-1]
		}
		if node.Size(f, api.Node{Pairs: with}) == size {
			w.pairs = with
			return w
		}
		w.pairs = append(w.pairs, api.Pair{Key: p.Key, Val: p.Val[:f.MaxVal()/2+1]})
	}
}

// TestShapeAtTheLeast: a size of just the least is enough, one byte fewer is not.
func TestShapeAtTheLeast(t *testing.T) {
	t.Parallel()
	for _, f := range frames() {
		for fewer, due := range []api.Errno{api.OK, api.ErrTree} {
			for _, sizes := range [][2]int{{f.Least() - fewer, f.Least() + 9}, {f.Room(), f.Least() - fewer}} {
				w := branchOf(2, sized(f, 3, "a", sizes[0]), "m", sized(f, 4, "n", sizes[1]))
				s, root := laid(f, w)
				y := newTrial(t, f, s, root)
				if e := y.shape(); e != due {
					t.Errorf("%v, sizes %v: %v", f, sizes, e)
				}
				if shape, _ := y.x.Shape(); due == api.OK && shape.Least != f.Least() {
					t.Errorf("%v, sizes %v: the least size is %d", f, sizes, shape.Least)
				}
			}
		}
	}
}
