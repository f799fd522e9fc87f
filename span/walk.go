package span

import (
	"heartwood/api"
	"heartwood/node"
	"heartwood/reach"
	"heartwood/trunk"
	"heartwood/within"
)

// walk goes through the nodes of a range, be they a tree's or a proof's.
type walk struct {
	frame api.Frame
	from  reach.Source
	keys  within.Bounds
	do    func(reach.Stop) // what is done with each node
}

// down gets the node of a place, and below it all that can have a key of the range. It gives up where a node is not to be got.
func (w walk) down(p reach.Place) {
	s, e := reach.Get(w.frame, w.from, p)
	well(e)
	w.do(s)
	for i := range s.Kids {
		if below := s.Below(i); w.keys.Meets(below.Bounds) {
			w.down(below)
		}
	}
}

// ofRange answers those of a leaf's pairs that a range has.
func ofRange(keys within.Bounds, pairs []api.Pair) []api.Pair {
	var l []api.Pair
	for _, p := range pairs {
		if keys.Has(p.Key) {
			l = append(l, p)
		}
	}
	return l
}

// isTree tells a tree from none, and from one that trunk's New did not make: this has no frame.
func isTree(t *trunk.Tree) bool { return node.Right(t.Frame()) }

// isEmpty tells whether a tree has no node.
func isEmpty(t *trunk.Tree) bool { return t.Root().Page == 0 }

// givenUp is what is given up with: a panic, which is caught at the face.
type givenUp struct{ why api.Errno }

// well gives up at an error.
func well(e api.Errno) {
	if e != api.OK {
		panic(givenUp{e})
	}
}

// whyGivenUp is the error at which it was given up. What else was caught is of a source of the caller's own, and goes on to the caller.
func whyGivenUp(caught any) api.Errno {
	g, own := caught.(givenUp)
	if !own {
		panic(caught)
	}
	return g.why
}
