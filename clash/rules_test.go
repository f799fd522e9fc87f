package clash_test

import (
	"fmt"
	"maps"
	"slices"
	"testing"

	"heartwood/api"
	"heartwood/clash"
	"heartwood/node"
)

// stretched is a node with the room behind its lists.
func stretched(n api.Node) api.Node {
	return api.Node{Pairs: n.Pairs[:cap(n.Pairs)], Seps: n.Seps[:cap(n.Seps)], Kids: n.Kids[:cap(n.Kids)]}
}

// roomy has spare room laid behind the lists of a well's nodes, and answers what they are with it.
func (s *well) roomy() map[uint32]api.Node {
	was := map[uint32]api.Node{}
	for no, n := range s.nodes {
		n.Pairs = append(slices.Clone(n.Pairs), api.Pair{Key: "spare"})[:len(n.Pairs)]
		n.Seps = append(slices.Clone(n.Seps), "spare")[:len(n.Seps)]
		n.Kids = append(slices.Clone(n.Kids), api.Kid{Page: 77})[:len(n.Kids)]
		s.nodes[no] = n
		was[no] = node.Copy(stretched(n))
	}
	return was
}

// What the trees' sources keep is left as it was, and so are the trees.
func TestTreesAreLeftAsTheyWere(t *testing.T) {
	f := api.Frame{Page: 1024, Width: 1}
	one := alone("0210=1")
	two := twin(t, f, one, func(i int) *twig { return alone(fmt.Sprintf("0210=x%d", i)) })
	p := newPair(t, f, high(f, one), high(f, two))
	a, b, x, y := p.s.roomy(), p.t.roomy(), *p.x, *p.y
	first, _ := p.told()
	again, _ := p.told()
	is(t, "asked again", f, again, first)
	is(t, "one tree alone", f, tell(clash.Trees(p.x, p.x)), told{code: api.ErrAlike})
	now := func(s *well) map[uint32]api.Node {
		l := map[uint32]api.Node{}
		for no, n := range s.nodes {
			l[no] = stretched(n)
		}
		return l
	}
	if !maps.EqualFunc(now(p.s), a, node.Same) || !maps.EqualFunc(now(p.t), b, node.Same) {
		t.Error("a source's nodes are others")
	}
	if *p.x != x || *p.y != y {
		t.Error("a tree is another one")
	}
}

// A clash is its own: what a source does with its nodes later does not change it.
func TestClashesStay(t *testing.T) {
	f := api.Frame{Page: 1024, Width: 1}
	one := alone("0210=1")
	two := twin(t, f, one, func(i int) *twig { return alone(fmt.Sprintf("0210=x%d", i)) })
	p := newPair(t, f, high(f, one), high(f, two))
	got, _ := p.told()
	for _, s := range []*well{p.s, p.t} {
		for _, n := range s.nodes {
			clear(n.Pairs)
			clear(n.Seps)
			clear(n.Kids)
		}
	}
	clashes(t, "behind that", f, got, one.Node, two.Node)
}

// faulty is a well that does not keep its word at one page.
type faulty struct {
	*well
	at   uint32
	with any
}

func (s faulty) Node(no uint32) (api.Node, api.Errno) {
	if no == s.at {
		panic(s.with)
	}
	return s.well.Node(no)
}

// A source's own panic is not told as an answer, be it at the root or below: it goes on to who handed the source in.
func TestSourcesThatPanic(t *testing.T) {
	f := api.Frame{Page: 1024, Width: 1}
	w := high(f, alone("0210=1"))
	for _, with := range []any{"a fault of the source's own", 17, api.ErrIO, api.Clash{One: "a", Two: "b"}} {
		for at := range 9 {
			p := newPair(t, f, w, w)
			bad := treeAt(t, f, faulty{p.s, 2 + uint32(at), with}, p.x.Root())
			for i, call := range []func(){func() { clash.Trees(bad, p.y) }, func() { clash.Trees(p.y, bad) }, func() { clash.Trees(bad, bad) }} {
				func() {
					defer func() {
						if x := recover(); x != with {
							t.Errorf("%d, %d: it came as %v, and not as %v", at, i, x, with)
						}
					}()
					call()
				}()
			}
		}
	}
}
