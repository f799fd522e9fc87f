package span_test

import (
	"fmt"
	"maps"
	"slices"
	"strings"
	"testing"

	"heartwood/api"
	"heartwood/growth"
	"heartwood/node"
	"heartwood/pack"
	"heartwood/span"
	"heartwood/trunk"
)

// What the tests of this package are made of.

const mostLevels = 33

// frames are all page sizes, with the least width, the greatest, and one between.
func frames() []api.Frame {
	var l []api.Frame
	for _, size := range []int{1024, 2048, 4096, 8192} {
		for _, width := range []int{1, 5, 32} {
			l = append(l, api.Frame{Page: size, Width: width})
		}
	}
	return l
}

// sizes are all page sizes, once.
func sizes() []api.Frame {
	return []api.Frame{{Page: 1024, Width: 32}, {Page: 2048, Width: 3}, {Page: 4096, Width: 20}, {Page: 8192, Width: 1}}
}

// wrongFrames are such as may not be.
func wrongFrames() []api.Frame {
	return []api.Frame{{}, {Page: 1024}, {Width: 32}, {Page: 1023, Width: 32}, {Page: 1025, Width: 32}, {Page: 512, Width: 32}, {Page: 16384, Width: 32}, {Page: 3072, Width: 32}, {Page: -1024, Width: 32}, {Page: 1024, Width: -1}, {Page: 1024, Width: 33}, {Page: 1 << 62, Width: 1 << 62}, {Page: -1 << 63, Width: -1 << 63}}
}

// small is the frame of the chapter's examples.
func small() api.Frame { return api.Frame{Page: 1024, Width: 2} }

// leaf is a leaf of pairs that are told as key=value.
func leaf(pairs ...string) api.Node {
	var n api.Node
	for _, p := range pairs {
		k, v, _ := strings.Cut(p, "=")
		n.Pairs = append(n.Pairs, api.Pair{Key: k, Val: v})
	}
	return n
}

// branch is a branch with these separators, and kids that are any.
func branch(f api.Frame, seps ...string) api.Node {
	n := api.Node{Seps: seps}
	for i := range len(seps) + 1 {
		var d api.Digest
		d[0], d[f.Width-1] = byte(i), byte(i+7)
		n.Kids = append(n.Kids, api.Kid{Sum: d})
	}
	return n
}

// plain is a node's plain form.
func plain(t *testing.T, f api.Frame, n api.Node) string {
	t.Helper()
	s, e := node.Plain(f, n)
	if e != api.OK {
		t.Fatalf("a node that may not be: %v: %v", e, n)
	}
	return s
}

func sumOf(t *testing.T, f api.Frame, n api.Node) api.Digest {
	t.Helper()
	d, e := node.Sum(f, n)
	if e != api.OK {
		t.Fatalf("a node that may not be: %v: %v", e, n)
	}
	return d
}

// twig is a node with some of its kids, by their numbers.
type twig struct {
	n     api.Node
	under map[int]*twig
}

func alone(n api.Node) *twig { return &twig{n: n} }

// with is a branch with kids from the number first on.
func with(n api.Node, first int, kids ...*twig) *twig {
	w := &twig{n, map[int]*twig{}}
	for i, k := range kids {
		w.under[first+i] = k
	}
	return w
}

// linked has each node's digest stand in the one above it, whatever else holds. It answers the root digest, and the plain forms in order.
func linked(t *testing.T, f api.Frame, w *twig) (api.Digest, []string) {
	t.Helper()
	n := node.Copy(w.n)
	var forms []string
	for _, i := range slices.Sorted(maps.Keys(w.under)) {
		sum, l := linked(t, f, w.under[i])
		n.Kids[i].Sum = sum
		forms = append(forms, l...)
	}
	return sumOf(t, f, n), append([]string{plain(t, f, n)}, forms...)
}

// keyRange is a range to ask for.
type keyRange struct{ lo, hi string }

// has tells whether a key is in the range.
func (r keyRange) has(key string) bool { return key >= r.lo && (r.hi == "" || key < r.hi) }

// mayHave tells whether a branch's kid may have of the range, by the chapter's words.
func (r keyRange) mayHave(n api.Node, i int) bool {
	left := i == 0 || r.hi == "" || n.Seps[i-1] < r.hi
	right := i == len(n.Kids)-1 || r.lo < n.Seps[i]
	return left && right
}

// of are those of some pairs that the range has.
func (r keyRange) of(pairs []api.Pair) []api.Pair {
	var l []api.Pair
	for _, p := range pairs {
		if r.has(p.Key) {
			l = append(l, p)
		}
	}
	return l
}

// open is a place of which the text has not come yet. All separators above it are kept, and not the nearest two alone.
type open struct {
	sum         api.Digest
	left, right []string
	depth       int
}

// due is what the chapter's words say of bytes: the pairs that they prove, if they prove any.
func due(f api.Frame, root api.Digest, r keyRange, bytes string) ([]api.Pair, bool) {
	texts, err := pack.Split(bytes)
	if err != nil {
		return nil, false
	}
	var pairs []api.Pair
	wanted := []open{{sum: root}}
	for _, text := range texts {
		if len(wanted) == 0 {
			return nil, false
		}
		p := wanted[0]
		n, e := node.Read(f, text)
		sum, _ := node.Sum(f, n)
		bare := len(n.Pairs) == 0 && len(n.Kids) == 0
		if e != api.OK || sum != p.sum || bare && p.depth > 0 || p.depth >= mostLevels || !lies(n, p.left, p.right) {
			return nil, false
		}
		pairs = append(pairs, r.of(n.Pairs)...)
		var kids []open
		for i, k := range n.Kids {
			if r.mayHave(n, i) {
				kids = append(kids, open{k.Sum, slices.Concat(p.left, n.Seps[:i]), slices.Concat(p.right, n.Seps[i:]), p.depth + 1})
			}
		}
		wanted = append(kids, wanted[1:]...)
	}
	if len(wanted) > 0 {
		return nil, false
	}
	return pairs, true
}

// lies tells whether a node may stand behind the separators on its left and ahead of those on its right.
func lies(n api.Node, left, right []string) bool {
	for _, s := range left {
		for _, p := range n.Pairs {
			if p.Key < s {
				return false
			}
		}
		if len(n.Seps) > 0 && slices.Min(n.Seps) <= s {
			return false
		}
	}
	for _, s := range right {
		for _, p := range n.Pairs {
			if p.Key >= s {
				return false
			}
		}
		if len(n.Seps) > 0 && slices.Max(n.Seps) >= s {
			return false
		}
	}
	return true
}

// dueForms are the plain forms that bytes are a list of, if they are one of such.
func dueForms(f api.Frame, bytes string) ([]string, bool) {
	texts, err := pack.Split(bytes)
	if err != nil || len(texts) == 0 {
		return nil, false
	}
	for _, s := range texts {
		if _, e := node.Read(f, s); e != api.OK {
			return nil, false
		}
	}
	return texts, true
}

// holds holds all that is told of bytes against what is due, and answers whether they prove anything.
func holds(t *testing.T, what string, f api.Frame, root api.Digest, r keyRange, bytes string) bool {
	t.Helper()
	want, proves := due(f, root, r, bytes)
	code := api.ErrProof
	if proves {
		code = api.OK
	}
	if l, e := span.Read(f, root, r.lo, r.hi, bytes); !slices.Equal(l, want) || e != code {
		t.Errorf("%s: Read(%v, .., %.20q): %d pairs, %v, and not %d, %v", what, f, r, len(l), e, len(want), code)
	}
	if span.Verify(f, root, r.lo, r.hi, want, bytes) != proves {
		t.Errorf("%s: Verify(%v, .., %.20q) is not %t", what, f, r, proves)
	}
	if more := append(slices.Clone(want), api.Pair{Key: "k"}); span.Verify(f, root, r.lo, r.hi, more, bytes) {
		t.Errorf("%s: Verify(%v, .., %.20q) of a pair more", what, f, r)
	}
	if isListed(t, what, f, bytes); proves {
		if _, e := span.Forms(f, bytes); e != api.OK {
			t.Errorf("%s: Forms(%v, ..) of what is read: %v", what, f, e)
		}
	}
	return proves
}

// isListed holds Forms against what is due.
func isListed(t *testing.T, what string, f api.Frame, bytes string) {
	t.Helper()
	want, is := dueForms(f, bytes)
	code := api.ErrProof
	if is {
		code = api.OK
	}
	l, e := span.Forms(f, bytes)
	if e != code || !is && l != nil || is && (!slices.Equal(l, want) || pack.Join(l...) != bytes) {
		t.Errorf("%s: Forms(%v, %.40q): %d texts, %v, and not %d, %v", what, f, bytes, len(l), e, len(want), code)
	}
}

// refused complains, if bytes are taken as a proof.
func refused(t *testing.T, what string, f api.Frame, root api.Digest, r keyRange, bytes string) {
	t.Helper()
	if holds(t, what, f, root, r, bytes) {
		t.Errorf("%s: %v: %.20q: this was to be no proof", what, f, r)
	}
}

// taken complains, if bytes are not taken as a proof of those pairs.
func taken(t *testing.T, what string, f api.Frame, root api.Digest, r keyRange, bytes string, pairs []api.Pair) {
	t.Helper()
	if !holds(t, what, f, root, r, bytes) {
		t.Errorf("%s: %v: %.20q: this was to be a proof", what, f, r)
	}
	if l, _ := due(f, root, r, bytes); !slices.Equal(l, pairs) {
		t.Errorf("%s: %v: %.20q: it does not prove these %d pairs", what, f, r, len(pairs))
	}
}

// well is a source that tells nodes out of lists that it keeps.
type well struct {
	nodes map[uint32]api.Node
	errs  map[uint32]api.Errno
	asked []uint32
}

func newWell() *well { return &well{nodes: map[uint32]api.Node{}, errs: map[uint32]api.Errno{}} }

func (s *well) Node(no uint32) (api.Node, api.Errno) {
	s.asked = append(s.asked, no)
	if e := s.errs[no]; e != api.OK {
		return api.Node{}, e
	}
	n, has := s.nodes[no]
	if !has {
		return api.Node{}, api.ErrNone
	}
	return n, api.OK
}

// put puts a twig's nodes into a well, in order from a number on, and answers the kid that its node is.
func (s *well) put(t *testing.T, f api.Frame, w *twig, next *uint32) api.Kid {
	t.Helper()
	k := api.Kid{Page: *next}
	*next++
	n := node.Copy(w.n)
	for _, i := range slices.Sorted(maps.Keys(w.under)) {
		n.Kids[i] = s.put(t, f, w.under[i], next)
	}
	s.nodes[k.Page] = n
	k.Sum = sumOf(t, f, n)
	return k
}

// treeAt is a tree over a source.
func treeAt(t *testing.T, f api.Frame, s trunk.Source, r api.Root) *trunk.Tree {
	t.Helper()
	x, e := trunk.New(f, s, r)
	if e != api.OK {
		t.Fatalf("New(%v, .., %v): %v", f, r, e)
	}
	return x
}

// planted is a tree of a twig's nodes, the root at the page 2, and the others behind it in order.
func planted(t *testing.T, f api.Frame, w *twig) (*trunk.Tree, *well) {
	t.Helper()
	s := newWell()
	next := uint32(2)
	k := s.put(t, f, w, &next)
	return treeAt(t, f, s, api.Root{Page: k.Page, Sum: k.Sum, Count: 1}), s
}

// emptyTree is the tree without pairs, over a source that has none.
func emptyTree(t *testing.T, f api.Frame) *trunk.Tree {
	t.Helper()
	sum, e := node.Empty(f)
	if e != api.OK {
		t.Fatal(e)
	}
	return treeAt(t, f, newWell(), api.Root{Sum: sum})
}

// grown is an Edit to which pairs were put, in their order.
func grown(t *testing.T, f api.Frame, pairs ...api.Pair) *growth.Edit {
	t.Helper()
	sum, _ := node.Empty(f)
	x, e := growth.New(f, newWell(), api.Root{Sum: sum})
	if e != api.OK {
		t.Fatal(e)
	}
	for _, p := range pairs {
		if _, e := x.Put(p.Key, p.Val); e != api.OK {
			t.Fatalf("Put(%q): %v", p.Key, e)
		}
	}
	return x
}

// treeOf is the tree of an Edit.
func treeOf(t *testing.T, x *growth.Edit) *trunk.Tree {
	t.Helper()
	tree, e := x.Tree()
	if e != api.OK {
		t.Fatal(e)
	}
	return tree
}

// longKey is the i-th of keys that are as long as may be, and alike but for their ends, so that separators are long.
func longKey(f api.Frame, i int) string {
	return strings.Repeat("k", f.Page/16-5) + fmt.Sprintf("%05d", i)
}

// longPairs are so many pairs of such keys, with a gap behind each, and values as long as may be.
func longPairs(f api.Frame, many int) []api.Pair {
	var l []api.Pair
	for i := range many {
		l = append(l, api.Pair{Key: longKey(f, 2*i+1), Val: strings.Repeat(string(rune('a'+i%26)), f.Page/8)})
	}
	return l
}

// proved is the proof of a range that is to be had.
func proved(t *testing.T, tree *trunk.Tree, r keyRange) string {
	t.Helper()
	s, e := span.Prove(tree, r.lo, r.hi)
	if e != api.OK {
		t.Fatalf("Prove(.., %.20q): %v", r, e)
	}
	return s
}
