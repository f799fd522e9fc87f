package graft

import (
	"iter"
	"math/bits"

	"heartwood/api"
	"heartwood/node"
)

// Bytes of chapter 7's page form: of what tells the kind, and of what tells a kid's page.
const (
	kindBytes = 1
	pageBytes = 4
)

// groupBits is how many bits of a free number each of its bytes has.
const groupBits = 7

// Between answers the shortest beginning of right that is above left.
func Between(left, right string) (string, api.Errno) {
	if left >= right {
		return "", api.ErrOrder
	}
	// right does not end within what they have in common: then it would not be above.
	same := 0
	for same < len(left) && left[same] == right[same] {
		same++
	}
	return right[:same+1], api.OK
}

// Full tells whether a node is right, and too large for a page.
func Full(f api.Frame, n api.Node) bool {
	return node.Check(f, n) == api.OK && node.Size(f, n) > f.Room()
}

// Thin tells whether a node is right, and too small to be another one than the root.
func Thin(f api.Frame, n api.Node) bool {
	return node.Check(f, n) == api.OK && node.Size(f, n) < f.Least()
}

// Cuts goes through all cuts of a node: where, and the sizes of both sides.
func Cuts(f api.Frame, n api.Node) iter.Seq2[int, [2]int] {
	n = node.Copy(n) // who handed it in may write over it ahead of the walk, or within it
	return func(tell func(int, [2]int) bool) {
		if node.Check(f, n) != api.OK {
			return
		}
		all, least := len(n.Pairs), 1
		if len(n.Kids) > 0 {
			all, least = len(n.Kids), leastKids
		}
		weigh := scale(f, n)
		for i := least; i <= all-least; i++ {
			if !tell(i, [2]int{weigh(0, i), weigh(i, all)}) {
				return
			}
		}
	}
}

// scale answers what weighs a side of a right node: the size of a node that has its pairs, or kids, from one on up to another. Asking node.Size of every side would lay each of them whole.
func scale(f api.Frame, n api.Node) func(from, to int) int {
	if len(n.Kids) > 0 {
		kid := pageBytes + f.Width
		seps := piled(n.Seps, textBytes)
		return func(from, to int) int { return headBytes(to-from) + (to-from)*kid + seps[to-1] - seps[from] }
	}
	pairs := piled(n.Pairs, func(p api.Pair) int { return textBytes(p.Key) + textBytes(p.Val) })
	return func(from, to int) int { return headBytes(to-from) + pairs[to] - pairs[from] }
}

// piled answers for each place in a list how much the things ahead of it weigh together.
func piled[T any](l []T, weight func(x T) int) []int {
	pile := make([]int, 1, len(l)+1)
	for i, x := range l {
		pile = append(pile, pile[i]+weight(x))
	}
	return pile
}

// headBytes tells how many bytes of a form stand ahead of so many things, textBytes how many a text takes, numberBytes how many a free number.
func headBytes(many int) int   { return kindBytes + numberBytes(many) }
func textBytes(s string) int   { return numberBytes(len(s)) + len(s) }
func numberBytes(many int) int { return max(1, (bits.Len(uint(many))+groupBits-1)/groupBits) }

// Split answers the halves into which a node is cut.
func Split(f api.Frame, n api.Node) (api.Halves, api.Errno) {
	if e := asked(f, node.Check(f, n) == api.OK); e != api.OK {
		return api.Halves{}, e
	}
	at := best(f, n)
	if at == 0 {
		return api.Halves{}, api.ErrNoCut
	}
	return halved(n, at), api.OK
}

// best answers where a right node is cut; 0, if it has no cut.
func best(f api.Frame, n api.Node) int {
	at, least := 0, 0
search:
	for i, sides := range Cuts(f, n) {
		larger := max(sides[0], sides[1])
		switch {
		case at == 0 || larger < least:
			at, least = i, larger
		default:
			// The left side grows from cut to cut and the right one shrinks: once the larger one has shrunk no further, it will not again.
			break search
		}
	}
	return at
}

// halved answers both sides of a node's cut, and what separates them.
func halved(n api.Node, at int) api.Halves {
	if len(n.Kids) > 0 {
		return api.Halves{
			Left:  api.Node{Seps: first(n.Seps, at-1), Kids: first(n.Kids, at)},
			Sep:   n.Seps[at-1],
			Right: api.Node{Seps: without(n.Seps, 0, at), Kids: without(n.Kids, 0, at)},
		}
	}
	sep, _ := Between(n.Pairs[at-1].Key, n.Pairs[at].Key) // a right leaf's keys rise
	return api.Halves{
		Left:  api.Node{Pairs: first(n.Pairs, at)},
		Sep:   sep,
		Right: api.Node{Pairs: without(n.Pairs, 0, at)},
	}
}

// first answers a new list of the first things of a list.
func first[T any](l []T, many int) []T { return without(l, many, len(l)-many) }
