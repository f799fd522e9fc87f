package climb

import (
	"heartwood/api"
	"heartwood/node"
	"heartwood/trunk"
	"heartwood/within"
)

// isTree tells a tree from none, and from one that trunk's New did not make: this has no frame.
func isTree(t *trunk.Tree) bool { return node.Right(t.Frame()) }

// isEmpty tells whether a tree has no node.
func isEmpty(t *trunk.Tree) bool { return t.Root().Page == 0 }

// place is where a node is to be got, and what is known of it ahead of that.
type place struct {
	depth int // how many nodes it hangs from
	kid   api.Kid
	within.Bounds
}

// top is the place of the root node.
func top(t *trunk.Tree) place {
	root := t.Root()
	return place{kid: api.Kid{Page: root.Page, Sum: root.Sum}}
}

// rung is a node that was got, with its place, and where in it one stands: at which kid, or at which pair.
type rung struct {
	api.Node
	place
	at int
}

// isLeaf tells a leaf from a branch.
func (r rung) isLeaf() bool { return len(r.Kids) == 0 }

// many answers how many things there are to stand at.
func (r rung) many() int { return max(len(r.Pairs), len(r.Kids)) }

// firstOf answers where going through a node's things begins.
func (d direction) firstOf(r rung) int { return d.first(r.many()) }

// under is the place of the kid i of a branch.
func (r rung) under(i int) place {
	return place{depth: r.depth + 1, kid: r.Kids[i], Bounds: r.Under(r.Node, i)}
}

// get is trunk's getting of a node, of one place alone: trunk's calls begin at the root, and would get those above it again.
func get(t *trunk.Tree, p place) (rung, api.Errno) {
	if p.depth >= api.MaxDepth {
		return rung{}, api.ErrBad
	}
	n, e := t.Node(p.kid.Page)
	if e != api.OK {
		return rung{}, e
	}
	r := rung{Node: n, place: p}
	sum, e := node.Sum(t.Frame(), n)
	if e != api.OK || sum != p.kid.Sum || r.many() == 0 || !p.KeptBy(n) {
		return rung{}, api.ErrBad
	}
	return r, api.OK
}
