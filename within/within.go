// Package within tells what lies between two texts: a node of a tree, or a range of keys. Every layer that goes down a tree asks it.
package within

import (
	"slices"

	"heartwood/api"
)

// Bounds are texts between which keys lie: not below the lower one, and below the upper one. An empty one is one that is missing: no separator is empty.
type Bounds struct{ Lower, Upper string }

// Under answers the bounds of the kid i of a branch that has these ones. Of a kid that there is not they are the branch's own.
func (b Bounds) Under(branch api.Node, i int) Bounds {
	if i > 0 && i <= len(branch.Seps) {
		b.Lower = branch.Seps[i-1]
	}
	if i >= 0 && i < len(branch.Seps) {
		b.Upper = branch.Seps[i]
	}
	return b
}

// Has tells whether a key lies between the bounds.
func (b Bounds) Has(key string) bool { return key >= b.Lower && b.ahead(key) }

// Meets tells whether there may be a key between these bounds that lies between other ones too.
func (b Bounds) Meets(other Bounds) bool { return b.ahead(other.Lower) && other.ahead(b.Lower) }

// KeptBy tells whether a node's keys and separators lie between the bounds. A separator is not the lower one itself: there would be no key ahead of it.
func (b Bounds) KeptBy(n api.Node) bool {
	keyOut := func(p api.Pair) bool { return !b.Has(p.Key) }
	sepOut := func(s string) bool { return s == b.Lower || !b.Has(s) }
	return !slices.ContainsFunc(n.Pairs, keyOut) && !slices.ContainsFunc(n.Seps, sepOut)
}

// ahead tells whether a text is ahead of the upper bound.
func (b Bounds) ahead(s string) bool { return b.Upper == "" || s < b.Upper }
