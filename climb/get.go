package climb

import (
	"slices"

	"heartwood/api"
	"heartwood/node"
	"heartwood/trunk"
)

// isTree tells a tree from none, and from one that trunk's New did not make: this has no frame.
func isTree(t *trunk.Tree) bool { return node.Right(t.Frame()) }

// isEmpty tells whether a tree has no node.
func isEmpty(t *trunk.Tree) bool { return t.Root().Page == 0 }

// bounds are texts between which a node's keys lie. An empty one is one that is missing: no separator is empty.
type bounds struct{ lower, upper string }

// below tells whether a text is below the upper bound.
func (b bounds) below(s string) bool { return b.upper == "" || s < b.upper }

// hold tells whether a node's keys and separators lie between the bounds.
func (b bounds) hold(n api.Node) bool {
	keyOut := func(p api.Pair) bool { return p.Key < b.lower || !b.below(p.Key) }
	sepOut := func(s string) bool { return s <= b.lower || !b.below(s) }
	return !slices.ContainsFunc(n.Pairs, keyOut) && !slices.ContainsFunc(n.Seps, sepOut)
}

// place is where a node is to be got, and what is known of it ahead of that.
type place struct {
	depth int // how many nodes it hangs from
	kid   api.Kid
	bounds
}

// top is the place of the root node.
func top(t *trunk.Tree) place {
	root := t.Root()
	return place{kid: api.Kid{Page: root.Page, Sum: root.Sum}}
}

// rung is a node that was got, with its place, and where in it one stands: at which kid, or at which pair.
type rung struct {
	api.Node
	place
	at int
}

// isLeaf tells a leaf from a branch.
func (r rung) isLeaf() bool { return len(r.Kids) == 0 }

// many answers how many things there are to stand at.
func (r rung) many() int { return max(len(r.Pairs), len(r.Kids)) }

// firstOf answers where going through a node's things begins.
func (d direction) firstOf(r rung) int { return d.first(r.many()) }

// under is the place of the kid i of a branch.
func (r rung) under(i int) place {
	p := place{depth: r.depth + 1, kid: r.Kids[i], bounds: r.bounds}
	if i > 0 {
		p.lower = r.Seps[i-1]
	}
	if i < len(r.Seps) {
		p.upper = r.Seps[i]
	}
	return p
}

// get is trunk's getting of a node, of one place alone: trunk's calls begin at the root, and would get those above it again.
func get(t *trunk.Tree, p place) (rung, api.Errno) {
	if p.depth >= api.MaxDepth {
		return rung{}, api.ErrBad
	}
	n, e := t.Node(p.kid.Page)
	if e != api.OK {
		return rung{}, e
	}
	r := rung{Node: n, place: p}
	sum, e := node.Sum(t.Frame(), n)
	if e != api.OK || sum != p.kid.Sum || r.many() == 0 || !p.hold(n) {
		return rung{}, api.ErrBad
	}
	return r, api.OK
}
