package proof_test

import (
	"fmt"
	"slices"
	"strings"
	"testing"

	"heartwood/api"
	"heartwood/growth"
	"heartwood/node"
	"heartwood/pack"
	"heartwood/proof"
	"heartwood/trunk"
)

// What the tests of this package are made of.

const mostLevels = 33

// frames are all page sizes, with the least width, the greatest, and one between.
func frames() []api.Frame {
	var l []api.Frame
	for _, size := range []int{1024, 2048, 4096, 8192} {
		for _, width := range []int{1, 5, 32} {
			l = append(l, api.Frame{Page: size, Width: width})
		}
	}
	return l
}

// sizes are all page sizes, once.
func sizes() []api.Frame {
	return []api.Frame{{Page: 1024, Width: 32}, {Page: 2048, Width: 3}, {Page: 4096, Width: 20}, {Page: 8192, Width: 1}}
}

// wrongFrames are such as may not be.
func wrongFrames() []api.Frame {
	return []api.Frame{{}, {Page: 1024}, {Width: 32}, {Page: 1023, Width: 32}, {Page: 1025, Width: 32}, {Page: 512, Width: 32}, {Page: 16384, Width: 32}, {Page: 3072, Width: 32}, {Page: -1024, Width: 32}, {Page: 1024, Width: -1}, {Page: 1024, Width: 33}, {Page: 1 << 62, Width: 1 << 62}, {Page: -1 << 63, Width: -1 << 63}}
}

// small is the frame of the chapter's examples.
func small() api.Frame { return api.Frame{Page: 1024, Width: 32} }

// leaf is a leaf of pairs that are told as key=value.
func leaf(pairs ...string) api.Node {
	var n api.Node
	for _, p := range pairs {
		k, v, _ := strings.Cut(p, "=")
		n.Pairs = append(n.Pairs, api.Pair{Key: k, Val: v})
	}
	return n
}

// branch is a branch with these separators, and kids that are any.
func branch(f api.Frame, seps ...string) api.Node {
	n := api.Node{Seps: seps}
	for i := range len(seps) + 1 {
		var d api.Digest
		d[0], d[f.Width-1] = byte(i), byte(i+7)
		n.Kids = append(n.Kids, api.Kid{Sum: d})
	}
	return n
}

// plain is a node's plain form.
func plain(t *testing.T, f api.Frame, n api.Node) string {
	t.Helper()
	s, e := node.Plain(f, n)
	if e != api.OK {
		t.Fatalf("a node that may not be: %v: %v", e, n)
	}
	return s
}

func sumOf(t *testing.T, f api.Frame, n api.Node) api.Digest {
	t.Helper()
	d, e := node.Sum(f, n)
	if e != api.OK {
		t.Fatalf("a node that may not be: %v: %v", e, n)
	}
	return d
}

// wayOf is which kid a key lies under: behind the last separator that is not above it.
func wayOf(n api.Node, key string) int {
	at := 0
	for i, s := range n.Seps {
		if s <= key {
			at = i + 1
		}
	}
	return at
}

// linked has each node stand under the one ahead, on the way of a key: its digest is put there, whatever else holds. It answers the root digest, and the plain forms.
func linked(t *testing.T, f api.Frame, key string, nodes ...api.Node) (api.Digest, []string) {
	t.Helper()
	var forms []string
	var sum api.Digest
	for i := len(nodes) - 1; i >= 0; i-- {
		n := node.Copy(nodes[i])
		if i < len(nodes)-1 && len(n.Kids) > 0 {
			n.Kids[wayOf(n, key)].Sum = sum
		}
		sum = sumOf(t, f, n)
		forms = append([]string{plain(t, f, n)}, forms...)
	}
	return sum, forms
}

// due is what the chapter's words say of bytes: the answer that they prove, if they prove one. All separators above a node are held against it, and not the nearest two alone.
func due(f api.Frame, root api.Digest, key, bytes string) (api.Answer, bool) {
	texts, err := pack.Split(bytes)
	if err != nil || len(texts) == 0 || len(texts) > mostLevels {
		return api.Answer{}, false
	}
	var left, right []string
	var n api.Node
	for i, text := range texts {
		var e api.Errno
		n, e = node.Read(f, text)
		sum, _ := node.Sum(f, n)
		if e != api.OK || sum != root || (len(n.Kids) == 0) != (i == len(texts)-1) || !lies(n, left, right) {
			return api.Answer{}, false
		}
		if len(n.Kids) > 0 {
			way := wayOf(n, key)
			root, left, right = n.Kids[way].Sum, append(left, n.Seps[:way]...), append(right, n.Seps[way:]...)
		}
	}
	if len(n.Pairs) == 0 && len(texts) > 1 {
		return api.Answer{}, false
	}
	for _, p := range n.Pairs {
		if p.Key == key {
			return api.Answer{Found: true, Val: p.Val}, true
		}
	}
	return api.Answer{}, true
}

// lies tells whether a node may stand behind the separators on its left and ahead of those on its right.
func lies(n api.Node, left, right []string) bool {
	for _, s := range left {
		for _, p := range n.Pairs {
			if p.Key < s {
				return false
			}
		}
		if len(n.Seps) > 0 && slices.Min(n.Seps) <= s {
			return false
		}
	}
	for _, s := range right {
		for _, p := range n.Pairs {
			if p.Key >= s {
				return false
			}
		}
		if len(n.Seps) > 0 && slices.Max(n.Seps) >= s {
			return false
		}
	}
	return true
}

// holds holds all that is told of bytes against what is due, and answers whether they prove anything.
func holds(t *testing.T, what string, f api.Frame, root api.Digest, key, bytes string) bool {
	t.Helper()
	want, proves := due(f, root, key, bytes)
	code := api.ErrProof
	if proves {
		code = api.OK
	}
	if a, e := proof.Read(f, root, key, bytes); a != want || e != code {
		t.Errorf("%s: Read(%v, .., %.20q): %v %v, and not %v %v", what, f, key, a, e, want, code)
	}
	if proof.Verify(f, root, key, want, bytes) != proves {
		t.Errorf("%s: Verify(%v, .., %.20q) is not %t", what, f, key, proves)
	}
	forms, kids, e := proof.Forms(f, root, key, bytes)
	if e != code || !proves && (forms != nil || kids != nil) {
		t.Errorf("%s: Forms(%v, .., %.20q): %d forms, %v, %v", what, f, key, len(forms), kids, e)
	}
	if proves && (pack.Join(forms...) != bytes || !slices.Equal(kids, waysOf(f, key, forms))) {
		t.Errorf("%s: Forms(%v, .., %.20q): %x, %v", what, f, key, forms, kids)
	}
	return proves
}

// waysOf is which kid is gone to in each of the forms but the last.
func waysOf(f api.Frame, key string, forms []string) []int {
	var l []int
	for _, s := range forms[:len(forms)-1] {
		n, _ := node.Read(f, s)
		l = append(l, wayOf(n, key))
	}
	return l
}

// refused complains, if bytes are taken as a proof.
func refused(t *testing.T, what string, f api.Frame, root api.Digest, key, bytes string) {
	t.Helper()
	if holds(t, what, f, root, key, bytes) {
		t.Errorf("%s: %v: %.20q: this was to be no proof", what, f, key)
	}
}

// taken complains, if bytes are not taken as a proof of that answer.
func taken(t *testing.T, what string, f api.Frame, root api.Digest, key, bytes string, a api.Answer) {
	t.Helper()
	if !holds(t, what, f, root, key, bytes) {
		t.Errorf("%s: %v: %.20q: this was to be a proof", what, f, key)
	}
	if !proof.Verify(f, root, key, a, bytes) {
		t.Errorf("%s: %v: %.20q: it does not prove %v", what, f, key, a)
	}
}

// well is a source that tells nodes out of lists that it keeps.
type well struct {
	nodes map[uint32]api.Node
	errs  map[uint32]api.Errno
	asked []uint32
}

func newWell() *well { return &well{nodes: map[uint32]api.Node{}, errs: map[uint32]api.Errno{}} }

func (s *well) Node(no uint32) (api.Node, api.Errno) {
	s.asked = append(s.asked, no)
	if e := s.errs[no]; e != api.OK {
		return api.Node{}, e
	}
	n, has := s.nodes[no]
	if !has {
		return api.Node{}, api.ErrNone
	}
	return n, api.OK
}

// treeAt is a tree over a source.
func treeAt(t *testing.T, f api.Frame, s trunk.Source, r api.Root) *trunk.Tree {
	t.Helper()
	x, e := trunk.New(f, s, r)
	if e != api.OK {
		t.Fatalf("New(%v, .., %v): %v", f, r, e)
	}
	return x
}

// row is a tree that has the linked nodes alone, the root at the page 2, the next one at 3, and so on.
func row(t *testing.T, f api.Frame, key string, nodes ...api.Node) (*trunk.Tree, *well) {
	t.Helper()
	root, forms := linked(t, f, key, nodes...)
	s := newWell()
	for i, form := range forms {
		n, e := node.Read(f, form)
		if e != api.OK {
			t.Fatal(e)
		}
		if i < len(forms)-1 {
			n.Kids[wayOf(n, key)].Page = uint32(i) + 3
		}
		s.nodes[uint32(i)+2] = n
	}
	return treeAt(t, f, s, api.Root{Page: 2, Sum: root, Count: 1}), s
}

// emptyTree is the tree without pairs, over a source that has none.
func emptyTree(t *testing.T, f api.Frame) *trunk.Tree {
	t.Helper()
	sum, e := node.Empty(f)
	if e != api.OK {
		t.Fatal(e)
	}
	return treeAt(t, f, newWell(), api.Root{Sum: sum})
}

// grown is an Edit to which pairs were put, in their order.
func grown(t *testing.T, f api.Frame, pairs ...api.Pair) *growth.Edit {
	t.Helper()
	sum, _ := node.Empty(f)
	x, e := growth.New(f, newWell(), api.Root{Sum: sum})
	if e != api.OK {
		t.Fatal(e)
	}
	for _, p := range pairs {
		if _, e := x.Put(p.Key, p.Val); e != api.OK {
			t.Fatalf("Put(%q): %v", p.Key, e)
		}
	}
	return x
}

// treeOf is the tree of an Edit.
func treeOf(t *testing.T, x *growth.Edit) *trunk.Tree {
	t.Helper()
	tree, e := x.Tree()
	if e != api.OK {
		t.Fatal(e)
	}
	return tree
}

// longKey is the i-th of keys that are as long as may be, and alike but for their ends, so that separators are long.
func longKey(f api.Frame, i int) string {
	return strings.Repeat("k", f.Page/16-5) + fmt.Sprintf("%05d", i)
}

// longPairs are so many pairs of such keys, with a gap behind each, and values as long as may be.
func longPairs(f api.Frame, many int) []api.Pair {
	var l []api.Pair
	for i := range many {
		l = append(l, api.Pair{Key: longKey(f, 2*i+1), Val: strings.Repeat(string(rune('a'+i%26)), f.Page/8)})
	}
	return l
}

// proved is the proof of a key that is to be had.
func proved(t *testing.T, tree *trunk.Tree, key string) string {
	t.Helper()
	s, e := proof.Prove(tree, key)
	if e != api.OK {
		t.Fatalf("Prove(.., %.20q): %v", key, e)
	}
	return s
}
