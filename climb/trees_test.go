package climb_test

import (
	"fmt"
	"math/rand"
	"slices"
	"strings"
	"testing"

	"heartwood/api"
	"heartwood/graft"
	"heartwood/node"
	"heartwood/trunk"
)

// frames are such as may be, of all page sizes and of several widths.
func frames() []api.Frame {
	var l []api.Frame
	for _, size := range []int{1024, 2048, 4096, 8192} {
		for _, width := range []int{1, 2, 7, 32} {
			l = append(l, api.Frame{Page: size, Width: width})
		}
	}
	return l
}

func small() api.Frame { return api.Frame{Page: 1024, Width: 2} }

// twig is a tree as the tests write it down. Its numbers may be any.
type twig struct {
	no    uint32
	pairs []api.Pair
	seps  []string
	kids  []*twig
}

// pairOf is a pair that is told as key=value.
func pairOf(s string) api.Pair {
	k, v, _ := strings.Cut(s, "=")
	return api.Pair{Key: k, Val: v}
}

// leafOf is a leaf of pairs, each told as key=value.
func leafOf(no uint32, pairs ...string) *twig {
	w := &twig{no: no}
	for _, p := range pairs {
		w.pairs = append(w.pairs, pairOf(p))
	}
	return w
}

// branchOf is a branch of kids, with texts between them by turns.
func branchOf(no uint32, kidsAndSeps ...any) *twig {
	w := &twig{no: no}
	for _, x := range kidsAndSeps {
		switch x := x.(type) {
		case string:
			w.seps = append(w.seps, x)
		case *twig:
			w.kids = append(w.kids, x)
		}
	}
	return w
}

// deep is a tree of three levels with gaps at its separators: keys that lie under a kid that has none of them.
func deep() *twig {
	left := branchOf(10, leafOf(11, "b=1", "d=2"), "f", leafOf(12, "h=3"), "j", leafOf(13, "l=4"))
	right := branchOf(20, leafOf(21, "r=5"), "t", leafOf(22, "v=6", "x=7"))
	return branchOf(30, left, "p", right)
}

// order is the numbers of deep's nodes, from the root down, from the left.
func order() []uint32 { return []uint32{30, 10, 11, 12, 13, 20, 21, 22} }

// gaunt is a tree of four levels in which each way down but the outer ones is long: what lies side by side hangs from the root alone.
func gaunt() *twig {
	left := branchOf(11, leafOf(12, "b=1"), "c", branchOf(13, leafOf(14, "d=2"), "e", leafOf(15, "f=3", "g=4")))
	right := branchOf(21, branchOf(22, leafOf(23, "n=5", "o=6"), "p", leafOf(24, "q=7")), "r", leafOf(25, "s=8"))
	return branchOf(31, left, "m", right)
}

// got is what a well writes down when it is asked for a number.
func got(no uint32) string { return fmt.Sprint("got ", no) }

// gots is that of several numbers.
func gots(numbers ...uint32) []string {
	var l []string
	for _, no := range numbers {
		l = append(l, got(no))
	}
	return l
}

// well is a source that tells nodes out of lists that it keeps, which have spare room behind them, and writes down what it is asked.
type well struct {
	nodes map[uint32]api.Node
	errs  map[uint32]api.Errno
	log   []string
}

func newWell() *well { return &well{nodes: map[uint32]api.Node{}, errs: map[uint32]api.Errno{}} }

func (s *well) Node(no uint32) (api.Node, api.Errno) {
	s.log = append(s.log, got(no))
	if e := s.errs[no]; e != api.OK {
		return api.Node{}, e
	}
	n, has := s.nodes[no]
	if !has {
		return api.Node{}, api.ErrNone
	}
	return n, api.OK
}

// roomy is the same node in lists with spare room.
func roomy(n api.Node) api.Node {
	pairs := append(slices.Clone(n.Pairs), api.Pair{Key: "spare", Val: "pair"})
	seps := append(slices.Clone(n.Seps), "spare sep")
	kids := append(slices.Clone(n.Kids), api.Kid{Page: 77, Sum: api.Digest{7}})
	return api.Node{Pairs: pairs[:len(n.Pairs)], Seps: seps[:len(n.Seps)], Kids: kids[:len(n.Kids)]}
}

// stretched is a node with the room behind its lists.
func stretched(n api.Node) api.Node {
	return api.Node{Pairs: n.Pairs[:cap(n.Pairs)], Seps: n.Seps[:cap(n.Seps)], Kids: n.Kids[:cap(n.Kids)]}
}

// kept answers a call that tells whether all that a well keeps is what it was, spare room included.
func (s *well) kept() func() bool {
	was := map[uint32]api.Node{}
	for no, n := range s.nodes {
		was[no] = node.Copy(stretched(n))
	}
	return func() bool {
		for no, n := range s.nodes {
			if !node.Same(was[no], stretched(n)) {
				return false
			}
		}
		return len(was) == len(s.nodes)
	}
}

// lay puts a tree's nodes into a well, each with the digests of its kids, right or not, and answers how its parent names it. A node that has no digest is named by one that no node has.
func (s *well) lay(f api.Frame, w *twig) api.Kid {
	n := api.Node{Pairs: w.pairs, Seps: w.seps}
	for _, k := range w.kids {
		n.Kids = append(n.Kids, s.lay(f, k))
	}
	s.nodes[w.no] = roomy(n)
	sum, _ := node.Sum(f, n)
	return api.Kid{Page: w.no, Sum: sum}
}

// pairsOf are the pairs of a tree, from the left.
func pairsOf(w *twig) []api.Pair {
	l := slices.Clone(w.pairs)
	for _, k := range w.kids {
		l = append(l, pairsOf(k)...)
	}
	return l
}

// laid is a tree in a well of its own, and its root.
func laid(f api.Frame, w *twig) (*well, api.Root) {
	s := newWell()
	k := s.lay(f, w)
	return s, api.Root{Page: k.Page, Sum: k.Sum, Count: max(uint64(len(pairsOf(w))), 1), Version: 3}
}

// tree makes one that may be.
func tree(t *testing.T, f api.Frame, s trunk.Source, r api.Root) *trunk.Tree {
	t.Helper()
	x, e := trunk.New(f, s, r)
	if e != api.OK || x == nil {
		t.Fatalf("New(%v, .., %v): %v", f, r, e)
	}
	return x
}

// treeOf makes one of a twig, in a well.
func treeOf(t *testing.T, f api.Frame, w *twig) (*trunk.Tree, *well) {
	t.Helper()
	s, r := laid(f, w)
	return tree(t, f, s, r), s
}

// emptyTree makes the empty one, over a well that refuses whatever it is asked for.
func emptyTree(t *testing.T, f api.Frame) (*trunk.Tree, *well) {
	t.Helper()
	sum, e := node.Empty(f)
	if e != api.OK {
		t.Fatal(e)
	}
	s := newWell()
	s.errs[0] = api.ErrIO
	return tree(t, f, s, api.Root{Sum: sum}), s
}

// noTrees are those that are as none: nil, and such as trunk's New did not make.
func noTrees(t *testing.T) map[string]*trunk.Tree {
	t.Helper()
	s, root := laid(small(), leafOf(4, "a=1"))
	left := tree(t, small(), s, root)
	left.Source = nil
	return map[string]*trunk.Tree{"nil": nil, "zero": {}, "with a source": {Source: s}, "without its source": left}
}

// textOf is a text by chance, of one byte up to most.
func textOf(r *rand.Rand, most int) string {
	b := make([]byte, 1+r.Intn(most))
	for i := range b {
		b[i] = "\x00\x01abcxyz\xfe\xff"[r.Intn(10)]
	}
	return string(b)
}

// somePairs are so many pairs by chance, rising, with keys and values of up to as many bytes as may be; the keys are long ones, where that is asked.
func somePairs(r *rand.Rand, f api.Frame, many int, long bool) []api.Pair {
	had := map[string]bool{}
	var l []api.Pair
	for len(l) < many {
		k := textOf(r, f.MaxKey())
		if had[k] || long && len(k) < f.MaxKey()*3/4 {
			continue
		}
		had[k] = true
		l = append(l, api.Pair{Key: k, Val: strings.Repeat("v", r.Intn(f.MaxVal()+1))})
	}
	slices.SortFunc(l, func(a, b api.Pair) int { return strings.Compare(a.Key, b.Key) })
	return l
}

// chunks cuts a list of so many things into pieces that are neither thin nor full, if all together are not thin, and answers where each begins, and last the end. What a piece weighs is told by weigh.
func chunks(r *rand.Rand, f api.Frame, many int, weigh func(from, to int) int) []int {
	at, from := []int{0}, 0
	target := f.Least() + r.Intn(f.Least()/2)
	for i := 1; i < many; i++ {
		if weigh(from, i) >= target && weigh(i, many) >= f.Least() {
			at, from = append(at, i), i
			target = f.Least() + r.Intn(f.Least()/2)
		}
	}
	if weigh(from, many) > f.Room() {
		i := from + 1
		for weigh(from, i) < weigh(i, many) {
			i++
		}
		at = append(at, i)
	}
	return append(at, many)
}

// grown is a tree of pairs by chance, well formed (the tests see to that), with separators by chance: a beginning of the first key on the right. Its numbers are given by next.
func grown(r *rand.Rand, f api.Frame, pairs []api.Pair, next func() uint32) *twig {
	var row []*twig
	var seps []string // ahead of each of the row; the first is none
	at := chunks(r, f, len(pairs), func(from, to int) int { return node.Size(f, api.Node{Pairs: pairs[from:to]}) })
	for i, from := range at[:len(at)-1] {
		row = append(row, &twig{no: next(), pairs: pairs[from:at[i+1]]})
		seps = append(seps, between(r, pairs, from))
	}
	for len(row) > 1 {
		var up []*twig
		var upSeps []string
		at = chunks(r, f, len(row), func(from, to int) int {
			return node.Size(f, api.Node{Kids: make([]api.Kid, to-from), Seps: seps[from+1 : to]})
		})
		for i, from := range at[:len(at)-1] {
			up = append(up, &twig{no: next(), kids: row[from:at[i+1]], seps: seps[from+1 : at[i+1]]})
			upSeps = append(upSeps, seps[from])
		}
		row, seps = up, upSeps
	}
	return row[0]
}

// between is a separator between the pair of a place and the one ahead.
func between(r *rand.Rand, pairs []api.Pair, at int) string {
	if at == 0 {
		return ""
	}
	key := pairs[at].Key
	short, _ := graft.Between(pairs[at-1].Key, key)
	switch r.Intn(3) {
	case 0:
		return short
	case 1:
		return key[:len(short)+r.Intn(len(key)-len(short)+1)]
	}
	return key
}

// counter gives numbers, in an order that says nothing of the tree.
func counter(r *rand.Rand) func() uint32 {
	numbers := r.Perm(5000)
	return func() uint32 {
		no := numbers[0]
		numbers = numbers[1:]
		return uint32(no) + api.FirstPage
	}
}

// twigs are all twigs of a tree, from the root down, from the left.
func twigs(w *twig) []*twig {
	l := []*twig{w}
	for _, k := range w.kids {
		l = append(l, twigs(k)...)
	}
	return l
}

// texts are what to begin and end ranges with, and to seek: a tree's keys and separators, ones just below and above them, and such as lie beside all.
func texts(w *twig) []string {
	l := []string{"", "\x00", strings.Repeat("\xff", 700), strings.Repeat("m", 700)}
	near := func(s string) {
		if s == "" {
			return
		}
		last := len(s) - 1
		l = append(l, s, s+"\x00", s[:last])
		if s[last] > 0 {
			l = append(l, s[:last]+string([]byte{s[last] - 1, 0xff}))
		}
	}
	for _, w := range twigs(w) {
		for _, p := range w.pairs {
			near(p.Key)
		}
		for _, s := range w.seps {
			near(s)
		}
	}
	slices.Sort(l)
	return slices.Compact(l)
}

// picked is some of a list's things, so many at most.
func picked[T any](r *rand.Rand, l []T, most int) []T {
	l = slices.Clone(l)
	r.Shuffle(len(l), func(i, j int) { l[i], l[j] = l[j], l[i] })
	return l[:min(len(l), most)]
}
