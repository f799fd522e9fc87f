package trunk

import (
	"iter"

	"heartwood/api"
	"heartwood/node"
)

// Walk goes through all nodes in order, each got when it is its turn. An error is told last.
func (t *Tree) Walk() iter.Seq2[api.Spot, api.Errno] {
	return func(yield func(api.Spot, api.Errno) bool) {
		if !t.there() || t.isEmpty() {
			return
		}
		var through func(p place) bool // whether the walk is to go on behind it
		through = func(p place) bool {
			s, e := t.get(p)
			if e != api.OK {
				yield(api.Spot{}, e)
				return false
			}
			if !yield(s.spot(), api.OK) {
				return false
			}
			for i := range s.Kids {
				if !through(s.under(i)) {
					return false
				}
			}
			return true
		}
		through(t.top())
	}
}

// Pages answers the numbers of all nodes, in the order of Walk.
func (t *Tree) Pages() ([]uint32, api.Errno) {
	if !t.there() {
		return nil, api.ErrNil
	}
	var numbers []uint32
	for s, e := range t.Walk() {
		if e != api.OK {
			return nil, e
		}
		numbers = append(numbers, s.Page)
	}
	return numbers, api.OK
}

// Shape answers what the tree looks like, if it is well formed.
func (t *Tree) Shape() (api.Shape, api.Errno) {
	if !t.there() {
		return api.Shape{}, api.ErrNil
	}
	var m measure
	for s, e := range t.Walk() {
		if e != api.OK {
			return api.Shape{}, e
		}
		m.add(s, node.Size(t.frame, s.Node))
	}
	// Only behind the whole walk, whose error goes ahead of this one.
	if m.uneven || m.Least > 0 && m.Least < t.frame.Least() || m.Count != t.root.Count {
		return api.Shape{}, api.ErrTree
	}
	return m.Shape, api.OK
}

// measure is the shape of the nodes that were met so far, and whether two leaves of them are not equally deep.
type measure struct {
	api.Shape
	uneven bool
}

// add takes a node of that size in.
func (m *measure) add(s api.Spot, size int) {
	if len(s.Way) > 0 && (m.Least == 0 || size < m.Least) {
		m.Least = size
	}
	if !isLeaf(s.Node) {
		m.Branches++
		return
	}
	level := len(s.Way) + 1
	m.uneven = m.uneven || m.Leaves > 0 && level != m.Height
	m.Height = level
	m.Leaves++
	m.Count += uint64(len(s.Node.Pairs))
}
