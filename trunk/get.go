package trunk

import (
	"slices"

	"heartwood/api"
	"heartwood/node"
	"heartwood/within"
)

// place is where a node is to be got, and what is known of it ahead of that.
type place struct {
	way []int
	kid api.Kid
	within.Bounds
}

// top is the place of the root node.
func (t *Tree) top() place { return place{kid: api.Kid{Page: t.root.Page, Sum: t.root.Sum}} }

// stop is a node that was got, with its place.
type stop struct {
	place
	node api.Node
}

// under is the place of the kid i of a branch.
func (s stop) under(i int) place {
	return place{way: append(slices.Clone(s.way), i), kid: s.node.Kids[i], Bounds: s.Under(s.node, i)}
}

// spot is what is told of a stop, in lists of its own, so that who is told may write into it while the stop is needed yet.
func (s stop) spot() api.Spot {
	return api.Spot{Way: slices.Clone(s.way), Page: s.kid.Page, Node: node.Copy(s.node)}
}

// get asks the source for the node of a place, and holds it against what is known of it.
func (t *Tree) get(p place) (stop, api.Errno) {
	if len(p.way) >= api.MaxDepth {
		return stop{}, api.ErrBad
	}
	n, e := t.Node(p.kid.Page)
	if e != api.OK {
		return stop{}, e
	}
	sum, e := node.Sum(t.frame, n)
	if e != api.OK || sum != p.kid.Sum || isLeaf(n) && len(n.Pairs) == 0 || !p.KeptBy(n) {
		return stop{}, api.ErrBad
	}
	return stop{place: p, node: n}, api.OK
}

// down gets the node of a place, and on down, in each branch the kid that pick answers, up to a leaf, which is the last.
func (t *Tree) down(p place, pick func(branch api.Node) int) ([]stop, api.Errno) {
	var l []stop
	for {
		s, e := t.get(p)
		if e != api.OK {
			return nil, e
		}
		l = append(l, s)
		if isLeaf(s.node) {
			return l, api.OK
		}
		p = s.under(pick(s.node))
	}
}
