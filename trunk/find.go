package trunk

import (
	"heartwood/api"
	"heartwood/graft"
)

// At answers the node of a way.
func (t *Tree) At(way ...int) (api.Node, api.Errno) {
	if !t.there() {
		return api.Node{}, api.ErrNil
	}
	if t.isEmpty() {
		return emptyAt(way)
	}
	s, e := t.get(t.top())
	for _, i := range way {
		if e != api.OK {
			break
		}
		if i < 0 || i >= len(s.Kids) {
			return api.Node{}, api.ErrWay
		}
		s, e = t.get(s.under(i))
	}
	return s.Node, e
}

// emptyAt answers the node of a way in the empty tree, which has none: in the root's place stands the empty leaf.
func emptyAt(way []int) (api.Node, api.Errno) {
	if len(way) > 0 {
		return api.Node{}, api.ErrWay
	}
	return api.Node{}, api.OK
}

// toward gets the nodes from the root down to the leaf of a key. Of the empty tree there are none.
func (t *Tree) toward(key string) ([]stop, api.Errno) {
	if !t.there() {
		return nil, api.ErrNil
	}
	if t.isEmpty() {
		return nil, api.OK
	}
	return t.down(t.top(), func(branch api.Node) int { return graft.Way(branch, key) })
}

// Path answers the spots of the nodes from the root down to the leaf of a key.
func (t *Tree) Path(key string) ([]api.Spot, api.Errno) {
	l, e := t.toward(key)
	if e != api.OK {
		return nil, e
	}
	var spots []api.Spot
	for _, s := range l {
		spots = append(spots, s.spot())
	}
	return spots, api.OK
}

// Get answers the value of a key's pair, and whether there is one.
func (t *Tree) Get(key string) (string, bool, api.Errno) {
	l, e := t.toward(key)
	if e != api.OK || len(l) == 0 {
		return "", false, e
	}
	leaf := l[len(l)-1].Node
	at, is := graft.Find(leaf, key)
	if !is {
		return "", false, api.OK
	}
	return leaf.Pairs[at].Val, true, api.OK
}

// Floor answers the pair with the greatest key that is not above a key, and whether there is one.
func (t *Tree) Floor(key string) (api.Pair, bool, api.Errno) {
	l, e := t.toward(key)
	if e != api.OK || len(l) == 0 {
		return api.Pair{}, false, e
	}
	leaf := l[len(l)-1].Node
	at, is := graft.Find(leaf, key)
	if is {
		return leaf.Pairs[at], true, api.OK
	}
	if at > 0 {
		return leaf.Pairs[at-1], true, api.OK
	}
	lastKid := func(branch api.Node) int { return len(branch.Kids) - 1 }
	leaf, is, e = t.beside(l, -1, lastKid)
	if !is {
		return api.Pair{}, false, e
	}
	return leaf.Pairs[len(leaf.Pairs)-1], true, api.OK
}

// Ceil answers the pair with the least key that is not below a key, and whether there is one.
func (t *Tree) Ceil(key string) (api.Pair, bool, api.Errno) {
	l, e := t.toward(key)
	if e != api.OK || len(l) == 0 {
		return api.Pair{}, false, e
	}
	leaf := l[len(l)-1].Node
	at, _ := graft.Find(leaf, key)
	if at < len(leaf.Pairs) {
		return leaf.Pairs[at], true, api.OK
	}
	firstKid := func(api.Node) int { return 0 }
	leaf, is, e := t.beside(l, 1, firstKid)
	if !is {
		return api.Pair{}, false, e
	}
	return leaf.Pairs[0], true, api.OK
}

// beside gets a leaf next to the one that stops lead to, and tells whether there is one: of the lowest branch that has a kid a step on from the one that was gone to, that kid, and on down the kids that pick answers.
func (t *Tree) beside(l []stop, step int, pick func(branch api.Node) int) (api.Node, bool, api.Errno) {
	for depth := len(l) - 1; depth > 0; depth-- {
		branch, i := l[depth-1], l[depth].way[depth-1]+step
		if i < 0 || i >= len(branch.Kids) {
			continue
		}
		to, e := t.down(branch.under(i), pick)
		if e != api.OK {
			return api.Node{}, false, e
		}
		return to[len(to)-1].Node, true, api.OK
	}
	return api.Node{}, false, api.OK
}
