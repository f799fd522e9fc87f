package clash_test

import (
	"fmt"
	"slices"
	"testing"

	"heartwood/api"
	"heartwood/clash"
	"heartwood/node"
	"heartwood/trunk"
)

// pair are two trees over wells that note into one list.
type pair struct {
	log  []asked
	s, t *well
	x, y *trunk.Tree
}

func newPair(t *testing.T, f api.Frame, one, two *twig) *pair {
	t.Helper()
	p := &pair{}
	p.s, p.t = newWell("s", &p.log), newWell("t", &p.log)
	p.x, p.y = planted(t, f, one, p.s, 2), planted(t, f, two, p.t, 1000)
	p.log = nil
	return p
}

// told is what Trees tells, and which pages it asked for.
func (p *pair) told() (told, []asked) {
	p.log = nil
	got := tell(clash.Trees(p.x, p.y))
	return got, p.log
}

// asks are the pages that two trees are asked for, by turns: so many nodes of the one and of the other, in their order.
func asks(x, y *trunk.Tree, some, others int) []asked {
	a, b := pagesOf(x), pagesOf(y)
	var l []asked
	for i := range some {
		if i < len(a) {
			l = append(l, asked{"s", a[i]})
		}
		if i < others && i < len(b) {
			l = append(l, asked{"t", b[i]})
		}
	}
	return l
}

// pagesOf are the pages of a tree's nodes in order, the one at which it ends by an error included.
func pagesOf(t *trunk.Tree) []uint32 {
	var l []uint32
	last := api.Spot{}
	place := map[string]uint32{"[]": t.Root().Page}
	if t.Root().Page == 0 {
		return nil
	}
	for s, e := range t.Walk() {
		if e != api.OK {
			return append(l, behind(last, place))
		}
		l = append(l, s.Page)
		for i, k := range s.Node.Kids {
			place[fmt.Sprint(append(slices.Clone(s.Way), i))] = k.Page
		}
		last = s
	}
	return l
}

// behind is the page of the node that comes next behind a spot.
func behind(last api.Spot, place map[string]uint32) uint32 {
	if len(place) == 1 {
		return place["[]"]
	}
	if len(last.Node.Kids) > 0 {
		return last.Node.Kids[0].Page
	}
	for way := slices.Clone(last.Way); len(way) > 0; way = way[:len(way)-1] {
		way[len(way)-1]++
		if no, is := place[fmt.Sprint(way)]; is {
			return no
		}
	}
	return 0
}

// holdsTo holds what Trees tells of a pair against what is due, in both orders, and the asks too.
func (p *pair) holdsTo(t *testing.T, what string) told {
	t.Helper()
	f := p.x.Frame()
	c, e, some, others := dueOfTrees(t, p.x, p.y)
	pages := asks(p.x, p.y, some, others)
	got, log := p.told()
	is(t, what, f, got, told{c, e})
	if !slices.Equal(log, pages) {
		t.Errorf("%s: %v: asked for %v, and not for %v", what, f, log, pages)
	}
	return got
}

// A tree and itself, two trees of one root, at all frames: all is got, by turns, and they are alike.
func TestTreesThatAreAlike(t *testing.T) {
	for _, f := range frames() {
		for what, w := range map[string]*twig{
			"a leaf":      alone("a=1"),
			"a branch":    with(f, []string{"b", "c"}, alone("a=1"), alone("b=1", "b1=1"), alone("c=1")),
			"four levels": high(f, alone("0210=1")),
			"no pairs":    {},
		} {
			p := newPair(t, f, w, w)
			if got := p.holdsTo(t, what); got.code != api.ErrAlike {
				t.Errorf("%s: %v: %s", what, f, got.short())
			}
			fails(t, what+" and itself", f, tell(clash.Trees(p.x, p.x)), api.ErrAlike)
			p.log = nil
			if pages, e := p.x.Pages(); e != api.OK || tell(clash.Trees(p.x, p.x)).code != api.ErrAlike || len(p.log) != 3*len(pages) {
				t.Errorf("%s and itself: %v: %v", what, f, p.log)
			}
		}
	}
}

// Unlike leaves at the root, unlike nodes in the midst and at the bottom, a leaf and a branch; two clashes, of which the first one met counts.
func TestTreesThatAreUnlike(t *testing.T) {
	for _, f := range append(narrow(), api.Frame{Page: 1024, Width: 2}) {
		one := alone("0210=1", "0250=2")
		leaves := twin(t, f, one, func(i int) *twig { return alone("0205=1", fmt.Sprintf("0250=x%d", i)) })
		high2 := twin(t, f, one, func(i int) *twig {
			return with(f, []string{fmt.Sprintf("0230%d", i)}, alone("0200=7"), alone("0240=8"))
		})
		left := alone("0150=1")
		l := twin(t, f, left, func(i int) *twig { return alone(fmt.Sprintf("0150=x%d", i)) })
		for what, two := range map[string]*twig{"leaves": leaves, "a leaf and a branch": high2} {
			for where, above := range map[string]func(w *twig) *twig{
				"at the root":   func(w *twig) *twig { return w },
				"below a root":  func(w *twig) *twig { return with(f, []string{"0200", "0300"}, alone("0100=1"), w, alone("0300=1")) },
				"at the bottom": func(w *twig) *twig { return high(f, w) },
			} {
				what := what + " " + where
				p := newPair(t, f, above(one), above(two))
				p.holdsTo(t, what)
				got, _ := p.told()
				clashes(t, what, f, got, one.Node, two.Node)
				p = newPair(t, f, above(two), above(one))
				p.holdsTo(t, what)
				got, _ = p.told()
				clashes(t, what, f, got, two.Node, one.Node)
			}
			p := newPair(t, f, high(f, one), in(f, high(f, two), l, 1, 1, 0))
			p.holdsTo(t, "two clashes")
			got, _ := p.told()
			clashes(t, "the left one", f, got, left.Node, l.Node)
		}
	}
}

// The empty tree, whose text is the empty leaf's, and trees of its digest: of itself no node is got.
func TestTreesAndTheEmptyOne(t *testing.T) {
	for _, f := range narrow() {
		none := &twig{}
		for what, other := range map[string]*twig{
			"a leaf":   twin(t, f, none, func(i int) *twig { return alone(fmt.Sprintf("a=%d", i)) }),
			"a branch": twin(t, f, none, func(i int) *twig { return with(f, []string{fmt.Sprint("b", i)}, alone("a=1"), alone("d=1")) }),
		} {
			p := newPair(t, f, none, other)
			p.holdsTo(t, what)
			got, log := p.told()
			clashes(t, what, f, got, api.Node{}, other.Node)
			if !slices.Equal(log, []asked{{"t", 1000}}) {
				t.Errorf("%v: %v", f, log)
			}
			p = newPair(t, f, other, none)
			got, log = p.told()
			clashes(t, what, f, got, other.Node, api.Node{})
			if !slices.Equal(log, []asked{{"s", 2}}) {
				t.Errorf("%v: %v", f, log)
			}
			p.s.errs[2] = api.ErrIO
			got, _ = p.told()
			fails(t, what+" that is not to be read", f, got, api.ErrIO)
		}
		p := newPair(t, f, none, none)
		got, log := p.told()
		fails(t, "both", f, got, api.ErrAlike)
		if len(log) != 0 {
			t.Errorf("%v: %v", f, log)
		}
	}
}

// A source's node of the page 0 is got like any other one: only as a root's page the 0 stands for no node.
func TestPageNought(t *testing.T) {
	f := api.Frame{Page: 1024, Width: 1}
	one := alone("a=1")
	two := twin(t, f, one, func(i int) *twig { return alone(fmt.Sprintf("a=x%d", i)) })
	p := newPair(t, f, with(f, []string{"b"}, one, alone("b=1")), with(f, []string{"b"}, two, alone("b=1")))
	n := node.Copy(p.s.nodes[2])
	n.Kids[0].Page = 0
	p.s.nodes[2], p.s.nodes[0] = n, p.s.nodes[3]
	got, log := p.told()
	clashes(t, "the page 0", f, got, one.Node, two.Node)
	if !slices.Equal(log, []asked{{"s", 2}, {"t", 1000}, {"s", 0}, {"t", 1001}}) {
		t.Errorf("%v", log)
	}
}

// What comes first, of trees that are not there, of unlike frames and of unlike roots: nothing is got.
func TestTreesThatAreNotAsked(t *testing.T) {
	f := api.Frame{Page: 1024, Width: 1}
	w := high(f, alone("0210=1"))
	p := newPair(t, f, w, with(f, []string{"a"}, alone("0=1"), alone("b=1")))
	if p.x.Root().Sum == p.y.Root().Sum {
		t.Fatal("these were to be unlike")
	}
	sum, _ := node.Empty(api.Frame{Page: 2048, Width: 1})
	longer := treeAt(t, api.Frame{Page: 2048, Width: 1}, p.t, api.Root{Page: 1000, Sum: p.x.Root().Sum, Count: 1})
	wider := treeAt(t, api.Frame{Page: 1024, Width: 2}, p.t, api.Root{Page: 1000, Sum: p.x.Root().Sum, Count: 1})
	emptied := treeAt(t, api.Frame{Page: 2048, Width: 1}, p.t, api.Root{Sum: sum})
	bare := &trunk.Tree{Source: p.s}
	gone := treeAt(t, f, p.s, p.x.Root())
	gone.Source = nil
	p.log = nil
	for _, none := range []*trunk.Tree{nil, {}, bare, gone} {
		for _, other := range []*trunk.Tree{nil, {}, bare, gone, p.x, p.y, longer, wider, emptied} {
			fails(t, "no tree ahead", f, tell(clash.Trees(none, other)), api.ErrNil)
			fails(t, "no tree behind", f, tell(clash.Trees(other, none)), api.ErrNil)
		}
	}
	for _, off := range []*trunk.Tree{longer, wider, emptied} {
		for _, other := range []*trunk.Tree{p.x, p.y} {
			fails(t, "unlike frames", f, tell(clash.Trees(off, other)), api.ErrArg)
			fails(t, "unlike frames", f, tell(clash.Trees(other, off)), api.ErrArg)
		}
	}
	fails(t, "two unlike frames", f, tell(clash.Trees(longer, wider)), api.ErrArg)
	p.s.errs[2], p.t.errs[1000] = api.ErrIO, api.ErrOff
	fails(t, "unlike roots", f, tell(clash.Trees(p.x, p.y)), api.ErrAlike)
	fails(t, "unlike roots", f, tell(clash.Trees(p.y, p.x)), api.ErrAlike)
	fails(t, "the empty tree and another", api.Frame{Page: 2048, Width: 1}, tell(clash.Trees(emptied, longer)), api.ErrAlike)
	if len(p.log) != 0 {
		t.Errorf("asked for %v", p.log)
	}
}

// Pages that are not to be read or not well formed, ahead of the clash and behind it, on either side and on both.
func TestTreesWithBadPages(t *testing.T) {
	for _, f := range narrow() {
		one := alone("0210=1")
		two := twin(t, f, one, func(i int) *twig { return alone(fmt.Sprintf("0210=x%d", i)) })
		// The nodes in order: 0 the root, 1 its leaf, 2 and 4 branches, 3 and 5 leaves, 6 the unlike ones, 7 and 8 leaves behind them.
		whole := newPair(t, f, high(f, one), high(f, two))
		for i := range 9 {
			for what, spoil := range spoilers() {
				for _, side := range []string{"s", "t", "both"} {
					p := newPair(t, f, high(f, one), high(f, two))
					want := told{code: api.OK}
					if side != "t" {
						want.code = spoil(p.s, 2+uint32(i))
					}
					if side != "s" {
						code := spoil(p.t, 1000+uint32(i))
						if side == "t" {
							want.code = code
						}
					}
					if i > 6 {
						want, _ = whole.told()
					}
					got, _ := p.told()
					is(t, fmt.Sprintf("%s at %d of %s", what, i, side), f, got, want)
					p.holdsTo(t, fmt.Sprintf("%s at %d of %s", what, i, side))
				}
			}
		}
	}
}

// spoilers have a node of a well be another one, or none, and tell what is answered of it.
func spoilers() map[string]func(s *well, no uint32) api.Errno {
	return map[string]func(s *well, no uint32) api.Errno{
		"refused":                   func(s *well, no uint32) api.Errno { s.errs[no] = api.ErrIO; return api.ErrIO },
		"an error that is nobody's": func(s *well, no uint32) api.Errno { s.errs[no] = 12345; return 12345 },
		"missing":                   func(s *well, no uint32) api.Errno { delete(s.nodes, no); return api.ErrNone },
		"without pairs":             func(s *well, no uint32) api.Errno { s.nodes[no] = api.Node{}; return api.ErrBad },
		"another one":               func(s *well, no uint32) api.Errno { s.nodes[no] = leaf("0210=no such leaf", "zz=1"); return api.ErrBad },
		"no node":                   func(s *well, no uint32) api.Errno { s.nodes[no] = leaf("b=1", "a=1"); return api.ErrBad },
	}
}

// On the one side a node is refused and on the other one too: that of s counts, wherever in the one node that of t would have been.
func TestTheErrorOfTheFirstTree(t *testing.T) {
	f := api.Frame{Page: 1024, Width: 1}
	for _, x := range []struct {
		s, t uint32
		want api.Errno
	}{{2, 1000, api.ErrIO}, {3, 1000, api.ErrOff}, {3, 1001, api.ErrIO}, {4, 1001, api.ErrOff}, {5, 1008, api.ErrIO}, {10, 1008, api.ErrIO}, {10, 1007, api.ErrOff}} {
		p := newPair(t, f, high(f, alone("0210=1")), high(f, alone("0210=1")))
		p.s.errs[x.s], p.t.errs[x.t] = api.ErrIO, api.ErrOff
		got, _ := p.told()
		fails(t, fmt.Sprint(x), f, got, x.want)
		p.holdsTo(t, fmt.Sprint(x))
	}
}

// A twin that does not keep its bounds is no node of a tree, though its digest is right.
func TestTwinsOutOfTheirBounds(t *testing.T) {
	f := api.Frame{Page: 1024, Width: 1}
	one := alone("0210=1")
	for _, key := range []string{"0199", "0300", "zz"} {
		two := twin(t, f, one, func(i int) *twig { return alone(fmt.Sprintf("%s=%d", key, i)) })
		p := newPair(t, f, high(f, one), high(f, two))
		p.holdsTo(t, key)
		got, _ := p.told()
		fails(t, key, f, got, api.ErrBad)
	}
}

// Ways of 33 levels, at the last of which the leaves are unlike; and of one level more, which no tree has.
func TestTheDeepestTrees(t *testing.T) {
	f := api.Frame{Page: 1024, Width: 1}
	one := alone("a=1")
	two := twin(t, f, one, func(i int) *twig { return alone(fmt.Sprintf("a=x%d", i)) })
	deep := func(w *twig, levels int) *twig {
		for i := 1; i < levels; i++ {
			sep := fmt.Sprintf("b%02d", i)
			w = with(f, []string{sep}, w, alone(sep+"=1"))
		}
		return w
	}
	p := newPair(t, f, deep(one, 33), deep(two, 33))
	p.holdsTo(t, "33 levels")
	got, _ := p.told()
	clashes(t, "33 levels", f, got, one.Node, two.Node)
	for _, key := range []string{"a", "b01"} {
		got = tell(clash.Points(f, p.x.Root().Sum, key, ofKey(t, p.x, key), ofKey(t, p.y, key)))
		if key == "a" {
			clashes(t, "33 levels", f, got, one.Node, two.Node)
		} else {
			fails(t, "33 levels", f, got, api.ErrAlike)
		}
	}
	clashes(t, "33 levels", f, tell(clash.Spans(f, p.x.Root().Sum, "", "b", ofRange(t, p.x, keyRange{"", "b"}), ofRange(t, p.y, keyRange{"", "b"}))), one.Node, two.Node)
	clashes(t, "33 levels", f, tell(clash.Mixed(f, p.x.Root().Sum, "a", ofKey(t, p.x, "a"), "", "", ofRange(t, p.y, keyRange{}))), one.Node, two.Node)
	p = newPair(t, f, deep(one, 34), deep(two, 34))
	got, _ = p.told()
	fails(t, "34 levels", f, got, api.ErrBad)
}
