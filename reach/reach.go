// Package reach gets nodes of a tree, each at the place that the node above it names. Every layer that goes down a tree asks it.
package reach

import (
	"heartwood/api"
	"heartwood/node"
	"heartwood/sums"
	"heartwood/within"
)

// Source is where nodes come from, by their numbers.
type Source interface {
	Node(no uint32) (api.Node, api.Errno)
}

// Place is where a node is to be got, and what is known of it ahead of that.
type Place struct {
	Depth int // how many nodes it hangs from
	api.Kid
	within.Bounds
}

// May tells whether there may be trees of a frame and of that root digest.
func May(f api.Frame, root api.Digest) bool { return node.Right(f) && sums.Fits(f.Width, root) }

// Top is the place of a root node.
func Top(r api.Root) Place { return Place{Kid: api.Kid{Page: r.Page, Sum: r.Sum}} }

// Fits tells whether a node has the digest that is wanted at a place, and keeps its bounds.
func (p Place) Fits(f api.Frame, n api.Node) bool {
	sum, e := node.Sum(f, n)
	return e == api.OK && sum == p.Sum && p.KeptBy(n)
}

// Stop is a node with the place at which it stands.
type Stop struct {
	api.Node
	Place
}

// IsLeaf tells a leaf from a branch.
func (s Stop) IsLeaf() bool { return len(s.Kids) == 0 }

// Below is the place of a branch's kid i.
func (s Stop) Below(i int) Place {
	return Place{Depth: s.Depth + 1, Kid: s.Kids[i], Bounds: s.Under(s.Node, i)}
}

// Get asks a source for the node of a place, and holds it against what is known of it. A leaf without pairs is no node of any tree.
func Get(f api.Frame, s Source, p Place) (Stop, api.Errno) {
	if p.Depth >= api.MaxDepth {
		return Stop{}, api.ErrBad
	}
	n, e := s.Node(p.Page)
	if e != api.OK {
		return Stop{}, e
	}
	if len(n.Pairs)+len(n.Kids) == 0 || !p.Fits(f, n) {
		return Stop{}, api.ErrBad
	}
	return Stop{Node: n, Place: p}, api.OK
}
