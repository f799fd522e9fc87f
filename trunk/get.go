package trunk

import (
	"slices"

	"heartwood/api"
	"heartwood/node"
	"heartwood/reach"
)

// place is where a node is to be got, with the way that leads there.
type place struct {
	way []int
	reach.Place
}

// top is the place of the root node.
func (t *Tree) top() place { return place{Place: reach.Top(t.root)} }

// stop is a node that was got, with the way that leads to it.
type stop struct {
	way []int
	reach.Stop
}

// under is the place of the kid i of a branch.
func (s stop) under(i int) place { return place{append(slices.Clone(s.way), i), s.Below(i)} }

// spot is what is told of a stop, in lists of its own, so that who is told may write into it while the stop is needed yet.
func (s stop) spot() api.Spot {
	return api.Spot{Way: slices.Clone(s.way), Page: s.Page, Node: node.Copy(s.Node)}
}

// get gets the node of a place from the tree's source.
func (t *Tree) get(p place) (stop, api.Errno) {
	s, e := reach.Get(t.frame, t, p.Place)
	if e != api.OK {
		return stop{}, e
	}
	return stop{p.way, s}, api.OK
}

// down gets the node of a place, and on down, in each branch the kid that pick answers, up to a leaf, which is the last.
func (t *Tree) down(p place, pick func(branch api.Node) int) ([]stop, api.Errno) {
	var l []stop
	for {
		s, e := t.get(p)
		if e != api.OK {
			return nil, e
		}
		l = append(l, s)
		if s.IsLeaf() {
			return l, api.OK
		}
		p = s.under(pick(s.Node))
	}
}
