package graft

import (
	"slices"

	"heartwood/api"
)

// Merge answers two nodes made one.
func Merge(f api.Frame, h api.Halves) (api.Node, api.Errno) {
	n, e := joined(f, h)
	switch {
	case e != api.OK:
		return api.Node{}, e
	case Full(f, n):
		return api.Node{}, api.ErrFull
	}
	return n, api.OK
}

// Borrow answers two nodes made one and cut anew.
func Borrow(f api.Frame, h api.Halves) (api.Halves, api.Errno) {
	n, e := joined(f, h)
	if e != api.OK {
		return api.Halves{}, e
	}
	return Split(f, n)
}

// Mend answers two nodes made one, as Left alone and with true, where that is not full; else what Borrow does.
func Mend(f api.Frame, h api.Halves) (api.Halves, bool, api.Errno) {
	n, e := Merge(f, h)
	switch e {
	case api.OK:
		return api.Halves{Left: n}, true, api.OK
	case api.ErrFull:
		h, e = Borrow(f, h)
		return h, false, e
	}
	return api.Halves{}, false, e
}

// joined answers both halves made one, full or not.
func joined(f api.Frame, h api.Halves) (api.Node, api.Errno) {
	leaves := isLeaf(f, h.Left) && isLeaf(f, h.Right)
	branches := isBranch(f, h.Left) && isBranch(f, h.Right)
	if e := asked(f, leaves || branches); e != api.OK {
		return api.Node{}, e
	}
	if !ordered(f, h) {
		return api.Node{}, api.ErrOrder
	}
	if leaves {
		return api.Node{Pairs: slices.Concat(h.Left.Pairs, h.Right.Pairs)}, api.OK
	}
	return api.Node{
		Seps: slices.Concat(with(h.Left.Seps, len(h.Left.Seps), h.Sep), h.Right.Seps),
		Kids: slices.Concat(h.Left.Kids, h.Right.Kids),
	}, api.OK
}

// ordered tells whether two right nodes of one kind stand in order.
func ordered(f api.Frame, h api.Halves) bool {
	if !mayKey(f, h.Sep) {
		return false
	}
	if n := len(h.Left.Seps); n > 0 {
		return h.Left.Seps[n-1] < h.Sep && h.Sep < h.Right.Seps[0]
	}
	left, _ := Find(h.Left, h.Sep)
	right, _ := Find(h.Right, h.Sep)
	return left == len(h.Left.Pairs) && right == 0
}
