package reach_test

import (
	"testing"

	"heartwood/api"
	"heartwood/node"
	"heartwood/reach"
	"heartwood/within"
)

// shelf is a source that tells the nodes it has, or one error.
type shelf struct {
	nodes map[uint32]api.Node
	e     api.Errno
	asked []uint32
}

func (s *shelf) Node(no uint32) (api.Node, api.Errno) {
	s.asked = append(s.asked, no)
	n, has := s.nodes[no]
	if !has {
		return api.Node{}, s.e
	}
	return n, api.OK
}

func leaf(keys ...string) api.Node {
	var n api.Node
	for _, k := range keys {
		n.Pairs = append(n.Pairs, api.Pair{Key: k})
	}
	return n
}

func sumOf(t *testing.T, f api.Frame, n api.Node) api.Digest {
	t.Helper()
	d, e := node.Sum(f, n)
	if e != api.OK {
		t.Fatal(e)
	}
	return d
}

func TestMay(t *testing.T) {
	for width := 1; width <= 32; width++ {
		for _, size := range []int{1024, 2048, 4096, 8192} {
			f := api.Frame{Page: size, Width: width}
			for at := range 32 {
				var d api.Digest
				d[at] = 1
				if reach.May(f, d) != (at < width) {
					t.Errorf("%v: a digest with a byte at %d", f, at)
				}
			}
		}
	}
	for _, f := range []api.Frame{{}, {Page: 1024}, {Page: 1024, Width: 33}, {Page: 1024, Width: -1}, {Page: 1000, Width: 32}, {Width: 32}} {
		if reach.May(f, api.Digest{}) {
			t.Errorf("%v may be", f)
		}
	}
}

func TestTop(t *testing.T) {
	sum := api.Digest{1, 2}
	if p := reach.Top(api.Root{Page: 7, Sum: sum, Count: 9, Version: 3}); p != (reach.Place{Kid: api.Kid{Page: 7, Sum: sum}}) {
		t.Errorf("the top is %v", p)
	}
}

func TestGetAndBelow(t *testing.T) {
	f := api.Frame{Page: 1024, Width: 4}
	left, right := leaf("a", "c"), leaf("m", "p")
	top := api.Node{Seps: []string{"m"}, Kids: []api.Kid{{Page: 3, Sum: sumOf(t, f, left)}, {Page: 4, Sum: sumOf(t, f, right)}}}
	s := &shelf{nodes: map[uint32]api.Node{2: top, 3: left, 4: right}}
	at, e := reach.Get(f, s, reach.Top(api.Root{Page: 2, Sum: sumOf(t, f, top)}))
	if e != api.OK || at.IsLeaf() || !node.Same(at.Node, top) || at.Depth != 0 || at.Page != 2 {
		t.Fatalf("%v %v", at, e)
	}
	for i, want := range []struct {
		n api.Node
		within.Bounds
	}{{left, within.Bounds{Upper: "m"}}, {right, within.Bounds{Lower: "m"}}} {
		p := at.Below(i)
		if p.Depth != 1 || p.Kid != top.Kids[i] || p.Bounds != want.Bounds {
			t.Errorf("the kid %d: %v", i, p)
		}
		if kid, e := reach.Get(f, s, p); e != api.OK || !kid.IsLeaf() || !node.Same(kid.Node, want.n) || kid.Place != p {
			t.Errorf("the kid %d: %v %v", i, kid, e)
		}
	}
}

func TestWhatIsNotGot(t *testing.T) {
	f := api.Frame{Page: 1024, Width: 4}
	n := leaf("d", "e")
	good := reach.Place{Depth: 32, Kid: api.Kid{Page: 2, Sum: sumOf(t, f, n)}, Bounds: within.Bounds{Lower: "d", Upper: "f"}}
	s := &shelf{nodes: map[uint32]api.Node{2: n, 3: {}, 4: {Seps: []string{"x"}}}}
	if _, e := reach.Get(f, s, good); e != api.OK || !good.Fits(f, n) {
		t.Fatalf("all is well: %v", e)
	}
	for what, change := range map[string]func(p *reach.Place){
		"another digest":         func(p *reach.Place) { p.Sum[3] ^= 1 },
		"a key below":            func(p *reach.Place) { p.Lower = "d\x00" },
		"a key at the upper one": func(p *reach.Place) { p.Upper = "e" },
		"an empty leaf":          func(p *reach.Place) { p.Page = 3; p.Sum = sumOf(t, f, api.Node{}) },
		"no right node":          func(p *reach.Place) { p.Page = 4 },
	} {
		p := good
		change(&p)
		if at, e := reach.Get(f, s, p); len(at.Pairs) > 0 || at.Place != (reach.Place{}) || e != api.ErrBad {
			t.Errorf("%s: %v %v", what, at, e)
		}
		if p.Page == 2 && p.Fits(f, n) {
			t.Errorf("%s fits", what)
		}
	}
	s.asked = nil
	deep := good
	deep.Depth = 33
	if at, e := reach.Get(f, s, deep); len(at.Pairs) > 0 || e != api.ErrBad || len(s.asked) > 0 {
		t.Errorf("too deep: %v %v, asked for %v", at, e, s.asked)
	}
	for _, due := range []api.Errno{api.ErrIO, api.ErrOff, -7} {
		s.e = due
		p := good
		p.Page = 99
		if at, e := reach.Get(f, s, p); len(at.Pairs) > 0 || at.Place != (reach.Place{}) || e != due {
			t.Errorf("an error: %v %v", at, e)
		}
	}
}

// A root that is an empty leaf is told by Fits alone: where a tree is shown it may stand there.
func TestTheEmptyLeafFits(t *testing.T) {
	f := api.Frame{Page: 1024, Width: 4}
	if !reach.Top(api.Root{Sum: sumOf(t, f, api.Node{})}).Fits(f, api.Node{}) {
		t.Error("it does not fit")
	}
	if reach.Top(api.Root{}).Fits(f, api.Node{}) || reach.Top(api.Root{}).Fits(api.Frame{}, api.Node{}) {
		t.Error("it fits everywhere")
	}
}
