package climb

import (
	"heartwood/api"
	"heartwood/node"
	"heartwood/reach"
	"heartwood/trunk"
)

// isTree tells a tree from none, and from one that trunk's New did not make: this has no frame.
func isTree(t *trunk.Tree) bool { return node.Right(t.Frame()) }

// isEmpty tells whether a tree has no node.
func isEmpty(t *trunk.Tree) bool { return t.Root().Page == 0 }

// rung is a node that was got, and where in it one stands: at which kid, or at which pair.
type rung struct {
	reach.Stop
	at int
}

// many answers how many things there are to stand at.
func (r rung) many() int { return max(len(r.Pairs), len(r.Kids)) }

// firstOf answers where going through a node's things begins.
func (d direction) firstOf(r rung) int { return d.first(r.many()) }

// get gets one node alone: trunk's calls begin at the root, and would get those above it again.
func get(t *trunk.Tree, p reach.Place) (rung, api.Errno) {
	s, e := reach.Get(t.Frame(), t, p)
	return rung{Stop: s}, e
}
