package climb

import (
	"slices"

	"heartwood/api"
	"heartwood/graft"
	"heartwood/reach"
	"heartwood/trunk"
)

// Cursor stands at a pair of a tree, or at none. It is made by New alone.
type Cursor struct {
	tree *trunk.Tree
	way  []rung // from the root down to the leaf of the pair; nothing, if it stands at none
}

// New makes a cursor over t that stands at none.
func New(t *trunk.Tree) (*Cursor, api.Errno) {
	if !isTree(t) {
		return nil, api.ErrNil
	}
	return &Cursor{tree: t}, api.OK
}

// there tells a cursor from none, and from one that New did not make.
func (c *Cursor) there() bool { return c != nil && isTree(c.tree) }

// stands tells whether a cursor stands at a pair.
func (c *Cursor) stands() bool { return c != nil && len(c.way) > 0 }

// Seek goes to the pair with the least key that is not below a key.
func (c *Cursor) Seek(key string) api.Errno {
	e := c.begin(func(r rung) int {
		if r.IsLeaf() {
			at, _ := graft.Find(r.Node, key)
			return at
		}
		return graft.Way(r.Node, key)
	})
	if e != api.OK || !c.stands() {
		return e
	}
	if leaf := c.way[len(c.way)-1]; leaf.at == leaf.many() {
		return c.on(rising)
	}
	return api.OK
}

// First goes to the pair with the least key.
func (c *Cursor) First() api.Errno { return c.begin(rising.firstOf) }

// Last goes to the pair with the greatest key.
func (c *Cursor) Last() api.Errno { return c.begin(falling.firstOf) }

// Next goes on to the pair behind.
func (c *Cursor) Next() api.Errno { return c.step(rising) }

// Back goes on to the pair ahead.
func (c *Cursor) Back() api.Errno { return c.step(falling) }

// Pair answers the pair at which the cursor stands, and whether there is one.
func (c *Cursor) Pair() (api.Pair, bool) {
	if !c.stands() {
		return api.Pair{}, false
	}
	leaf := c.way[len(c.way)-1]
	return leaf.Pairs[leaf.at], true
}

// Place answers which kid was gone to at each level, and last the pair's place in its leaf.
func (c *Cursor) Place() []int {
	if !c.stands() {
		return nil
	}
	var places []int
	for _, r := range c.way {
		places = append(places, r.at)
	}
	return places
}

// begin leaves the pair at which the cursor stands, and goes down from the root, in each node to what pick answers.
func (c *Cursor) begin(pick func(rung) int) api.Errno {
	if !c.there() {
		return api.ErrNil
	}
	c.way = nil
	if isEmpty(c.tree) {
		return api.OK
	}
	return c.down(reach.Top(c.tree.Root()), pick)
}

// down gets the node of a place, and on down up to a leaf, and lays each, with what pick answers of it, at the end of the way. Behind an error the cursor stands at none.
func (c *Cursor) down(p reach.Place, pick func(rung) int) api.Errno {
	for {
		r, e := get(c.tree, p)
		if e != api.OK {
			c.way = nil
			return e
		}
		r.at = pick(r)
		c.way = append(c.way, r)
		if r.IsLeaf() {
			return api.OK
		}
		p = r.Below(r.at)
	}
}

// step goes on in a direction from the pair at which the cursor stands.
func (c *Cursor) step(d direction) api.Errno {
	switch {
	case !c.there():
		return api.ErrNil
	case !c.stands():
		return api.ErrState
	}
	return c.on(d)
}

// on goes on in a direction: to the next pair of the leaf, or else, from the lowest branch that has a next kid, down to that one's first pair; to none, if there is no such branch. The way is laid anew, so that nothing is kept of the one that was left.
func (c *Cursor) on(d direction) api.Errno {
	way := c.way
	c.way = nil
	for depth, r := range slices.Backward(way) {
		r.at += int(d)
		if r.at < 0 || r.at >= r.many() {
			continue
		}
		c.way = append(slices.Clone(way[:depth]), r)
		if r.IsLeaf() {
			return api.OK
		}
		return c.down(r.Below(r.at), d.firstOf)
	}
	return api.OK
}
