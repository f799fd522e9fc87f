package growth

import (
	"maps"
	"slices"

	"heartwood/api"
	"heartwood/graft"
	"heartwood/node"
)

// work is one Put or Delete under way. What it makes and what it leaves stands here, and the Edit takes it over only when all of it went well: an error changes nothing.
type work struct {
	edit  *Edit
	key   string
	alter func(leaf api.Node) (api.Node, bool, api.Errno)
	had   bool
	count uint64 // of the tree's pairs behind it
	made  map[uint32]api.Node
	left  []uint32 // the nodes that are the tree's no more
	root  api.Root
}

// fork is a branch on the way: its level (the root's is 1), which of its kids was gone to, and what is to be done with what comes in the branch's own place.
type fork struct {
	api.Node
	level int
	at    int
	up    func(x api.Node) api.Errno
}

// change alters the leaf of a key, settles what comes of it, and answers whether the key's pair was there.
func (e *Edit) change(key string, alter func(leaf api.Node) (api.Node, bool, api.Errno)) (bool, api.Errno) {
	w := &work{edit: e, key: key, alter: alter, made: map[uint32]api.Node{}, root: e.root}
	if code := w.begin(); code != api.OK {
		return false, code
	}
	e.take(w)
	return w.had, api.OK
}

// take makes the tree what a work has made of it.
func (e *Edit) take(w *work) {
	for _, no := range w.left {
		if isDirty(no) {
			delete(e.dirty, no)
		} else {
			e.freed[no] = struct{}{}
		}
	}
	maps.Copy(e.dirty, w.made)
	e.given += uint32(len(w.made))
	e.root = w.root
}

// read answers the node that a kid names, which would lie on a level.
func (e *Edit) read(kid api.Kid, level int) (api.Node, api.Errno) {
	n, code := e.Node(kid.Page)
	if code != api.OK {
		return api.Node{}, code
	}
	if level > api.MaxDepth || !isDirty(kid.Page) && !e.believes(n, kid.Sum) {
		return api.Node{}, api.ErrBad
	}
	return n, api.OK
}

// believes tells whether what the source told is the node of a digest. A kid of the base's has a number below those of dirty nodes: where one has not, it could be taken for a dirty node, and a branch hang from itself.
func (e *Edit) believes(n api.Node, want api.Digest) bool {
	sum, code := node.Sum(e.frame, n)
	astray := func(k api.Kid) bool { return isDirty(k.Page) }
	return code == api.OK && sum == want && !slices.ContainsFunc(n.Kids, astray)
}

// begin goes down from the root. In the place of the root of the empty tree stands the empty leaf, which is not read.
func (w *work) begin() api.Errno {
	if w.root.Page == 0 {
		return w.atLeaf(api.Node{}, w.settleRoot)
	}
	return w.down(api.Kid{Page: w.root.Page, Sum: w.root.Sum}, 1, w.settleRoot)
}

// down reads the node that a kid names, and on down to the leaf of the key. What comes in the node's place is handed to up.
func (w *work) down(kid api.Kid, level int, up func(x api.Node) api.Errno) api.Errno {
	n, e := w.edit.read(kid, level)
	if e != api.OK {
		return e
	}
	instead := func(x api.Node) api.Errno {
		w.left = append(w.left, kid.Page)
		return up(x)
	}
	if isLeaf(n) {
		return w.atLeaf(n, instead)
	}
	b := fork{Node: n, level: level, at: graft.Way(n, w.key), up: instead}
	return w.down(n.Kids[b.at], level+1, func(x api.Node) api.Errno { return w.settle(b, x) })
}

// atLeaf has the leaf of the key altered. Only where it is another one then, this comes in its place.
func (w *work) atLeaf(leaf api.Node, up func(x api.Node) api.Errno) api.Errno {
	x, had, e := w.alter(leaf)
	if e != api.OK {
		return api.ErrBad
	}
	w.had = had
	if node.Same(x, leaf) {
		return api.OK
	}
	w.count = w.root.Count + uint64(len(x.Pairs)) - uint64(len(leaf.Pairs))
	return up(x)
}

// settle settles a node that has come in the place of a branch's kid.
func (w *work) settle(b fork, x api.Node) api.Errno {
	f := w.edit.frame
	switch {
	case graft.Full(f, x):
		h, e := graft.Split(f, x)
		if e != api.OK {
			return api.ErrBad
		}
		return w.splice(b, b.at, 1, h)
	case graft.Thin(f, x):
		return w.mend(b, x)
	}
	return w.splice(b, b.at, 1, api.Halves{Left: x})
}

// mend settles a thin node that has come in the place of a branch's kid.
func (w *work) mend(b fork, x api.Node) api.Errno {
	beside := b.at - 1
	if b.at == 0 {
		beside = 1
	}
	kid := b.Kids[beside]
	neighbour, e := w.edit.read(kid, b.level+1)
	if e != api.OK {
		return e
	}
	w.left = append(w.left, kid.Page)
	h := api.Halves{Left: neighbour, Right: x}
	if b.at == 0 {
		h = api.Halves{Left: x, Right: neighbour}
	}
	left := min(b.at, beside)
	h.Sep = b.Seps[left]
	h, one, e := graft.Mend(w.edit.frame, h)
	switch {
	case e != api.OK:
		return api.ErrBad
	case one && len(b.Kids) == 2:
		return b.up(h.Left)
	}
	return w.splice(b, left, 2, h)
}

// splice lays two halves, or Left alone where nothing separates them, in the place of some kids of a branch, and hands on what the branch has become.
func (w *work) splice(b fork, at, many int, h api.Halves) api.Errno {
	kids, seps, e := w.named(h)
	if e != api.OK {
		return e
	}
	n, e := graft.Splice(w.edit.frame, b.Node, at, many, kids, seps)
	if e != api.OK {
		return api.ErrBad
	}
	return b.up(n)
}

// settleRoot settles a node that has come in the root's place.
func (w *work) settleRoot(x api.Node) api.Errno {
	f := w.edit.frame
	if isLeaf(x) && len(x.Pairs) == 0 {
		sum, e := node.Empty(f)
		w.root = api.Root{Sum: sum}
		return e
	}
	if graft.Full(f, x) {
		h, e := graft.Split(f, x)
		if e != api.OK {
			return api.ErrBad
		}
		kids, seps, e := w.named(h)
		if e != api.OK {
			return e
		}
		x = api.Node{Seps: seps, Kids: kids}
	}
	kid, e := w.name(x)
	w.root = api.Root{Page: kid.Page, Sum: kid.Sum, Count: w.count}
	return e
}

// named names two halves, or Left alone where nothing separates them, and answers them as a branch has them.
func (w *work) named(h api.Halves) ([]api.Kid, []string, api.Errno) {
	left, e := w.name(h.Left)
	if e != api.OK || h.Sep == "" {
		return []api.Kid{left}, nil, e
	}
	right, e := w.name(h.Right)
	return []api.Kid{left, right}, []string{h.Sep}, e
}

// name gives a node that was made its number, and answers how a branch names it.
func (w *work) name(n api.Node) (api.Kid, api.Errno) {
	sum, e := node.Sum(w.edit.frame, n)
	if e != api.OK {
		return api.Kid{}, api.ErrBad
	}
	no := api.Dirty | (w.edit.given + uint32(len(w.made)))
	w.made[no] = n
	return api.Kid{Page: no, Sum: sum}, api.OK
}
