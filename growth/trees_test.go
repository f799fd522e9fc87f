package growth_test

import (
	"fmt"
	"math/rand"
	"slices"
	"strings"
	"testing"

	"heartwood/api"
	"heartwood/graft"
	"heartwood/growth"
	"heartwood/node"
	"heartwood/trunk"
)

const dirty = 1 << 31 // numbers of nodes that are on no page begin here

// frames are such as may be, of all page sizes and of several widths.
func frames() []api.Frame {
	var l []api.Frame
	for _, size := range []int{1024, 2048, 4096, 8192} {
		for _, width := range []int{1, 2, 7, 32} {
			l = append(l, api.Frame{Page: size, Width: width})
		}
	}
	return l
}

// wrongFrames are such as may not be.
func wrongFrames() []api.Frame {
	return []api.Frame{{}, {Page: 1024}, {Width: 2}, {Page: 1023, Width: 2}, {Page: 1025, Width: 2}, {Page: 512, Width: 2}, {Page: 16384, Width: 2}, {Page: -1024, Width: 2}, {Page: 1024, Width: -1}, {Page: 8192, Width: 33}, {Page: 1 << 62, Width: 1 << 62}, {Page: 3072, Width: 1}, {Page: 1000, Width: 32}}
}

func small() api.Frame { return api.Frame{Page: 1024, Width: 2} }

// twig is a base as the tests write it down. Its numbers may be any. One that is bare is named by its parent alone: no source has it.
type twig struct {
	no    uint32
	pairs []api.Pair
	seps  []string
	kids  []*twig
	bare  bool
}

// pairOf is a pair that is told as key=value.
func pairOf(s string) api.Pair {
	k, v, _ := strings.Cut(s, "=")
	return api.Pair{Key: k, Val: v}
}

// leafOf is a leaf of pairs, each told as key=value.
func leafOf(no uint32, pairs ...string) *twig {
	w := &twig{no: no}
	for _, p := range pairs {
		w.pairs = append(w.pairs, pairOf(p))
	}
	return w
}

// branchOf is a branch of kids, with texts between them by turns.
func branchOf(no uint32, kidsAndSeps ...any) *twig {
	w := &twig{no: no}
	for _, x := range kidsAndSeps {
		switch x := x.(type) {
		case string:
			w.seps = append(w.seps, x)
		case *twig:
			w.kids = append(w.kids, x)
		}
	}
	return w
}

// well is a source that tells nodes out of lists that it keeps, which have spare room behind them, and writes down what it is asked.
type well struct {
	nodes map[uint32]api.Node
	errs  map[uint32]api.Errno
	asked []uint32
}

func newWell() *well { return &well{nodes: map[uint32]api.Node{}, errs: map[uint32]api.Errno{}} }

// tells is what the well answers of a number. Beside an error it tells a node all the same.
func (s *well) tells(no uint32) (api.Node, api.Errno) {
	n, has := s.nodes[no]
	if !has {
		return api.Node{}, api.ErrNone
	}
	return n, s.errs[no]
}

func (s *well) Node(no uint32) (api.Node, api.Errno) {
	s.asked = append(s.asked, no)
	return s.tells(no)
}

// roomy is the same node in lists with spare room.
func roomy(n api.Node) api.Node {
	pairs := append(slices.Clone(n.Pairs), api.Pair{Key: "spare", Val: "pair"})
	seps := append(slices.Clone(n.Seps), "spare sep")
	kids := append(slices.Clone(n.Kids), api.Kid{Page: 77, Sum: api.Digest{7}})
	return api.Node{Pairs: pairs[:len(n.Pairs)], Seps: seps[:len(n.Seps)], Kids: kids[:len(n.Kids)]}
}

// stretched is a node with the room behind its lists.
func stretched(n api.Node) api.Node {
	return api.Node{Pairs: n.Pairs[:cap(n.Pairs)], Seps: n.Seps[:cap(n.Seps)], Kids: n.Kids[:cap(n.Kids)]}
}

// kept answers a call that tells whether all that a well keeps is what it was, spare room included.
func (s *well) kept() func() bool {
	was := map[uint32]api.Node{}
	for no, n := range s.nodes {
		was[no] = node.Copy(stretched(n))
	}
	return func() bool {
		for no, n := range s.nodes {
			if !node.Same(was[no], stretched(n)) {
				return false
			}
		}
		return len(was) == len(s.nodes)
	}
}

// lay puts a tree's nodes into a well, each with the digests of its kids, right or not, and answers how its parent names it.
func (s *well) lay(f api.Frame, w *twig) api.Kid {
	if w.bare {
		return api.Kid{Page: w.no, Sum: api.Digest{byte(w.no)}}
	}
	n := api.Node{Pairs: w.pairs, Seps: w.seps}
	for _, k := range w.kids {
		n.Kids = append(n.Kids, s.lay(f, k))
	}
	s.nodes[w.no] = roomy(n)
	sum, _ := node.Sum(f, n)
	return api.Kid{Page: w.no, Sum: sum}
}

// pairsOf are the pairs of a tree, from the left.
func pairsOf(w *twig) []api.Pair {
	l := slices.Clone(w.pairs)
	for _, k := range w.kids {
		l = append(l, pairsOf(k)...)
	}
	return l
}

// laid is a tree in a well of its own, and its root. Nil is the empty tree.
func laid(f api.Frame, w *twig) (*well, api.Root) {
	s := newWell()
	if w == nil {
		return s, emptyRoot(f)
	}
	k := s.lay(f, w)
	return s, api.Root{Page: k.Page, Sum: k.Sum, Count: uint64(max(1, len(pairsOf(w)))), Version: 3}
}

// emptyRoot is the root of the empty tree.
func emptyRoot(f api.Frame) api.Root {
	sum, _ := node.Empty(f)
	return api.Root{Sum: sum}
}

// edit makes an Edit that may be.
func edit(t *testing.T, f api.Frame, s trunk.Source, r api.Root) *growth.Edit {
	t.Helper()
	x, e := growth.New(f, s, r)
	if e != api.OK || x == nil {
		t.Fatalf("New(%v, .., %v): %v", f, r, e)
	}
	return x
}

// textOf is a text by chance, of one byte up to most.
func textOf(r *rand.Rand, most int) string {
	b := make([]byte, 1+r.Intn(most))
	for i := range b {
		b[i] = "\x00\x01abcxyz\xfe\xff"[r.Intn(10)]
	}
	return string(b)
}

// somePairs are so many pairs by chance, rising, with keys and values of up to as many bytes as may be; the keys are long ones, where that is asked.
func somePairs(r *rand.Rand, f api.Frame, many int, long bool) []api.Pair {
	had := map[string]bool{}
	var l []api.Pair
	for len(l) < many {
		k := textOf(r, f.Page/16)
		if had[k] || long && len(k) < f.Page/16*3/4 {
			continue
		}
		had[k] = true
		l = append(l, api.Pair{Key: k, Val: strings.Repeat("v", r.Intn(f.Page/8+1))})
	}
	slices.SortFunc(l, func(a, b api.Pair) int { return strings.Compare(a.Key, b.Key) })
	return l
}

// room is the most bytes of a node, least the fewest of one that is not the root.
func room(f api.Frame) int  { return f.Page - 32 }
func least(f api.Frame) int { return (f.Page - 32 + 2) / 3 }

// chunks cuts a list of so many things into pieces that are neither thin nor full, if all together are not thin, and answers where each begins, and last the end. What a piece weighs is told by weigh.
func chunks(r *rand.Rand, f api.Frame, many int, weigh func(from, to int) int) []int {
	at, from := []int{0}, 0
	target := least(f) + r.Intn(least(f)/2)
	for i := 1; i < many; i++ {
		if weigh(from, i) >= target && weigh(i, many) >= least(f) {
			at, from = append(at, i), i
			target = least(f) + r.Intn(least(f)/2)
		}
	}
	if weigh(from, many) > room(f) {
		i := from + 1
		for weigh(from, i) < weigh(i, many) {
			i++
		}
		at = append(at, i)
	}
	return append(at, many)
}

// grown is a tree of pairs by chance, well formed (the tests see to that), with separators by chance: a beginning of the first key on the right. Its numbers are given by next.
func grown(r *rand.Rand, f api.Frame, pairs []api.Pair, next func() uint32) *twig {
	if len(pairs) == 0 {
		return nil
	}
	var row []*twig
	var seps []string // ahead of each of the row; the first is none
	at := chunks(r, f, len(pairs), func(from, to int) int { return node.Size(f, api.Node{Pairs: pairs[from:to]}) })
	for i, from := range at[:len(at)-1] {
		row = append(row, &twig{no: next(), pairs: pairs[from:at[i+1]]})
		seps = append(seps, between(r, pairs, from))
	}
	for len(row) > 1 {
		var up []*twig
		var upSeps []string
		at = chunks(r, f, len(row), func(from, to int) int {
			return node.Size(f, api.Node{Kids: make([]api.Kid, to-from), Seps: seps[from+1 : to]})
		})
		for i, from := range at[:len(at)-1] {
			up = append(up, &twig{no: next(), kids: row[from:at[i+1]], seps: seps[from+1 : at[i+1]]})
			upSeps = append(upSeps, seps[from])
		}
		row, seps = up, upSeps
	}
	return row[0]
}

// between is a separator between the pair of a place and the one ahead.
func between(r *rand.Rand, pairs []api.Pair, at int) string {
	if at == 0 {
		return ""
	}
	key := pairs[at].Key
	short, _ := graft.Between(pairs[at-1].Key, key)
	switch r.Intn(3) {
	case 0:
		return short
	case 1:
		return key[:len(short)+r.Intn(len(key)-len(short)+1)]
	}
	return key
}

// counter gives numbers, in an order that says nothing of the tree.
func counter(r *rand.Rand) func() uint32 {
	numbers := r.Perm(5000)
	return func() uint32 {
		no := numbers[0]
		numbers = numbers[1:]
		return uint32(no) + 2
	}
}

// levelsOf is how many levels a tree has.
func levelsOf(w *twig) int {
	if w == nil {
		return 0
	}
	if len(w.kids) == 0 {
		return 1
	}
	return 1 + levelsOf(w.kids[0])
}

// nodesOf goes through a tree's twigs, each ahead of those below it.
func nodesOf(w *twig, do func(w *twig)) {
	do(w)
	for _, k := range w.kids {
		nodesOf(k, do)
	}
}

// grownTo is a tree by chance of so many levels.
func grownTo(t *testing.T, r *rand.Rand, f api.Frame, levels int) *twig {
	t.Helper()
	for many := 3; many < 3000; many += 1 + many/3 {
		if levels == 0 {
			return nil
		}
		if w := grown(r, f, somePairs(r, f, many, levels > 2), counter(r)); levelsOf(w) == levels {
			return w
		}
	}
	t.Fatalf("no tree of %d levels: %v", levels, f)
	return nil
}

// sizedLeaf is a leaf of a size, of pairs with values of at most 100 bytes, whose keys begin with a text and then have three bytes: x000, x001, and so on. The value of the last one makes it up.
func sizedLeaf(no uint32, begin string, size int) *twig {
	w := &twig{no: no}
	each := len(begin) + 3 + 2 + 100
	for left := size - 2; left > 0; {
		take := min(left, each)
		if rest := left - take; rest > 0 && rest < len(begin)+5 {
			take -= len(begin) + 5
		}
		w.pairs = append(w.pairs, api.Pair{Key: fmt.Sprintf("%s%03d", begin, len(w.pairs)), Val: strings.Repeat("v", take-len(begin)-5)})
		left -= take
	}
	return w
}

// sizedBranch is a branch of a size in a frame, with bare kids, numbered from 100 times its own number on, and separators of 8 to 60 bytes: x000.., x001.., and so on, x being a text with which they begin. It has kids enough that each may be changed for others.
func sizedBranch(f api.Frame, no uint32, begin string, size int) *twig {
	w := &twig{no: no}
	for kids := 3; ; kids++ {
		head := 2
		if kids > 127 {
			head = 3
		}
		seps := size - head - kids*(4+f.Width) - (kids - 1)
		if seps > (kids-1)*60 {
			continue
		}
		for i := range kids {
			w.kids = append(w.kids, &twig{no: 100*no + uint32(i), bare: true})
		}
		for i := range kids - 1 {
			many := seps / (kids - 1 - i)
			seps -= many
			sep := fmt.Sprintf("%s%03d", begin, i)
			w.seps = append(w.seps, sep+strings.Repeat("s", many-len(sep)))
		}
		return w
	}
}
