package clash_test

import (
	"fmt"
	"math/rand"
	"os"
	"runtime/debug"
	"slices"
	"strconv"
	"strings"
	"testing"

	"heartwood/api"
	"heartwood/clash"
	"heartwood/graft"
	"heartwood/node"
	"heartwood/pack"
	"heartwood/proof"
	"heartwood/span"
	"heartwood/sums"
	"heartwood/trunk"
)

// What the tests of this package are made of.

// What the tests make is gone at once, and there is much of it: most of their time would go to clearing it away.
func TestMain(m *testing.M) {
	debug.SetGCPercent(400)
	os.Exit(m.Run())
}

// frames are all page sizes, with the least width, the greatest, and one between.
func frames() []api.Frame {
	var l []api.Frame
	for _, size := range []int{1024, 2048, 4096, 8192} {
		for _, width := range []int{1, 5, 32} {
			l = append(l, api.Frame{Page: size, Width: width})
		}
	}
	return l
}

// narrow are all page sizes at the width 1, where unlike nodes of one digest are soon found.
func narrow() []api.Frame {
	return []api.Frame{{Page: 1024, Width: 1}, {Page: 2048, Width: 1}, {Page: 4096, Width: 1}, {Page: 8192, Width: 1}}
}

// wrongFrames are such as may not be.
func wrongFrames() []api.Frame {
	return []api.Frame{{}, {Page: 1024}, {Width: 1}, {Page: 1023, Width: 1}, {Page: 1025, Width: 1}, {Page: 512, Width: 1}, {Page: 16384, Width: 1}, {Page: 3072, Width: 1}, {Page: -1024, Width: 1}, {Page: 1024, Width: -1}, {Page: 1024, Width: 33}, {Page: 1 << 62, Width: 1 << 62}, {Page: -1 << 63, Width: -1 << 63}}
}

// leaf is a leaf of pairs that are told as key=value.
func leaf(pairs ...string) api.Node {
	var n api.Node
	for _, p := range pairs {
		k, v, _ := strings.Cut(p, "=")
		n.Pairs = append(n.Pairs, api.Pair{Key: k, Val: v})
	}
	return n
}

// plain is a node's plain form.
func plain(t *testing.T, f api.Frame, n api.Node) string {
	t.Helper()
	s, e := node.Plain(f, n)
	if e != api.OK {
		t.Fatalf("a node that may not be: %v: %v", e, n)
	}
	return s
}

// sumOf is a node's digest; none of a node that may not be.
func sumOf(f api.Frame, n api.Node) (api.Digest, bool) {
	d, e := node.Sum(f, n)
	return d, e == api.OK
}

// textOfForm is the text that a form's digest is made of, worked out by hand.
func textOfForm(form string) string {
	tag := "branch"
	if form[0] == 1 {
		tag = "leaf"
	}
	n := len(form)
	return string([]byte{byte(len(tag))}) + tag + string([]byte{byte(n >> 24), byte(n >> 16), byte(n >> 8), byte(n)}) + form
}

// twig is a node with all its kids, whose digests stand in it.
type twig struct {
	api.Node
	under []*twig
}

func alone(pairs ...string) *twig { return &twig{Node: leaf(pairs...)} }

// with is a branch of those kids, with these separators between.
func with(f api.Frame, seps []string, kids ...*twig) *twig {
	w := &twig{api.Node{Seps: seps}, kids}
	for _, k := range kids {
		d, _ := sumOf(f, k.Node)
		w.Kids = append(w.Kids, api.Kid{Sum: d})
	}
	return w
}

// in is a twig with another one in the place that a way leads to. (The digests above it are made anew.)
func in(f api.Frame, w *twig, other *twig, way ...int) *twig {
	if len(way) == 0 {
		return other
	}
	kids := slices.Clone(w.under)
	kids[way[0]] = in(f, kids[way[0]], other, way[1:]...)
	return with(f, w.Seps, kids...)
}

// grow is a twig by chance of keys that are numbers from lo on and below hi, at most so many levels high.
func grow(r *rand.Rand, f api.Frame, lo, hi, most int) *twig {
	if most <= 1 || hi-lo < 4 || r.Intn(5) == 0 {
		w := &twig{}
		for at := lo + r.Intn((hi-lo+2)/3); at < hi && len(w.Pairs) < 6; at += 1 + r.Intn((hi-lo+2)/2) {
			w.Pairs = append(w.Pairs, api.Pair{Key: number(at), Val: fmt.Sprint(r.Intn(1000))})
		}
		return w
	}
	var seps []string
	var kids []*twig
	for many := 1 + r.Intn(3); many > 0 && hi-lo >= 4; many-- {
		at := lo + 1 + r.Intn((hi-lo)/2)
		seps = append(seps, number(at))
		kids = append(kids, grow(r, f, lo, at, most-1))
		lo = at
	}
	return with(f, seps, append(kids, grow(r, f, lo, hi, most-1))...)
}

func number(i int) string { return fmt.Sprintf("%04d", i) }

// twin is another twig of the same digest, made by make of some number.
func twin(t *testing.T, f api.Frame, of *twig, make func(i int) *twig) *twig {
	t.Helper()
	sum, _ := sumOf(f, of.Node)
	for i := range 1 << 20 {
		w := make(i)
		if d, is := sumOf(f, w.Node); is && d == sum && !sameForm(t, f, w.Node, of.Node) {
			return w
		}
	}
	t.Fatalf("%v: no two of one digest", f)
	return nil
}

func sameForm(t *testing.T, f api.Frame, a, b api.Node) bool { return plain(t, f, a) == plain(t, f, b) }

// sumAt is the digest of a twig's root node.
func sumAt(t *testing.T, f api.Frame, w *twig) api.Digest {
	t.Helper()
	d, is := sumOf(f, w.Node)
	if !is {
		t.Fatalf("a node that may not be: %v", w.Node)
	}
	return d
}

// asked is which page of which well was asked for.
type asked struct {
	well string
	no   uint32
}

// well is a source that tells nodes out of lists that it keeps, and notes what it is asked for.
type well struct {
	name  string
	log   *[]asked
	nodes map[uint32]api.Node
	errs  map[uint32]api.Errno
}

func newWell(name string, log *[]asked) *well {
	return &well{name, log, map[uint32]api.Node{}, map[uint32]api.Errno{}}
}

func (s *well) Node(no uint32) (api.Node, api.Errno) {
	*s.log = append(*s.log, asked{s.name, no})
	if e := s.errs[no]; e != api.OK {
		return api.Node{}, e
	}
	n, has := s.nodes[no]
	if !has {
		return api.Node{}, api.ErrNone
	}
	return n, api.OK
}

// put puts a twig's nodes into a well, in order from a number on, and answers the kid that its node is.
func (s *well) put(w *twig, sum api.Digest, next *uint32) api.Kid {
	k := api.Kid{Page: *next, Sum: sum}
	*next++
	n := node.Copy(w.Node)
	for i, below := range w.under {
		n.Kids[i] = s.put(below, n.Kids[i].Sum, next)
	}
	s.nodes[k.Page] = n
	return k
}

// planted is a tree of a twig's nodes, the root at a page, and the others behind it in order.
func planted(t *testing.T, f api.Frame, w *twig, s *well, first uint32) *trunk.Tree {
	t.Helper()
	if len(w.Pairs)+len(w.Kids) == 0 {
		return treeAt(t, f, s, api.Root{Sum: sumAt(t, f, w)})
	}
	k := s.put(w, sumAt(t, f, w), &first)
	return treeAt(t, f, s, api.Root{Page: k.Page, Sum: k.Sum, Count: 1})
}

// treeAt is a tree over a source.
func treeAt(t *testing.T, f api.Frame, s trunk.Source, r api.Root) *trunk.Tree {
	t.Helper()
	x, e := trunk.New(f, s, r)
	if e != api.OK {
		t.Fatalf("New(%v, .., %v): %v", f, r, e)
	}
	return x
}

// plant is a tree of a twig's nodes, over a well that nobody looks at.
func plant(t *testing.T, f api.Frame, w *twig) *trunk.Tree {
	t.Helper()
	return planted(t, f, w, newWell("", &[]asked{}), 2)
}

// ofKey is a tree's proof of a key, which is to be had.
func ofKey(t *testing.T, tree *trunk.Tree, key string) string {
	t.Helper()
	s, e := proof.Prove(tree, key)
	if e != api.OK {
		t.Fatalf("Prove(.., %.20q): %v", key, e)
	}
	return s
}

// keyRange is a range to ask for.
type keyRange struct{ lo, hi string }

// has tells whether a key is in the range.
func (r keyRange) has(key string) bool { return key >= r.lo && (r.hi == "" || key < r.hi) }

// mayHave tells whether a branch's kid may have of the range, by chapter 16's words.
func (r keyRange) mayHave(n api.Node, i int) bool {
	left := i == 0 || r.hi == "" || n.Seps[i-1] < r.hi
	right := i == len(n.Kids)-1 || r.lo < n.Seps[i]
	return left && right
}

// ofRange is a tree's proof of a range, which is to be had.
func ofRange(t *testing.T, tree *trunk.Tree, r keyRange) string {
	t.Helper()
	s, e := span.Prove(tree, r.lo, r.hi)
	if e != api.OK {
		t.Fatalf("Prove(.., %.20q): %v", r, e)
	}
	return s
}

// unlike is the clash of the first forms that are unlike, of two lists whose forms stand at like places up to there.
func unlike(one, two []string) (api.Clash, api.Errno) {
	for i := range min(len(one), len(two)) {
		if one[i] != two[i] {
			return api.Clash{One: textOfForm(one[i]), Two: textOfForm(two[i])}, api.OK
		}
	}
	return api.Clash{}, api.ErrAlike
}

// texts are the forms that a proof is a list of.
func texts(proof string) []string {
	l, _ := pack.Split(proof)
	return l
}

// dueOfPoints is what the chapter's words say of two proofs of a key.
func dueOfPoints(f api.Frame, root api.Digest, key, p, q string) (api.Clash, api.Errno) {
	a, e := proof.Read(f, root, key, p)
	b, code := proof.Read(f, root, key, q)
	switch {
	case e == api.ErrArg:
		return api.Clash{}, api.ErrArg
	case e != api.OK || code != api.OK:
		return api.Clash{}, api.ErrRefused
	case a == b:
		return api.Clash{}, api.ErrAlike
	}
	return unlike(texts(p), texts(q))
}

// dueOfSpans is what the chapter's words say of two proofs of a range.
func dueOfSpans(f api.Frame, root api.Digest, r keyRange, p, q string) (api.Clash, api.Errno) {
	a, e := span.Read(f, root, r.lo, r.hi, p)
	b, code := span.Read(f, root, r.lo, r.hi, q)
	switch {
	case e == api.ErrArg:
		return api.Clash{}, api.ErrArg
	case e != api.OK || code != api.OK:
		return api.Clash{}, api.ErrRefused
	case slices.Equal(a, b):
		return api.Clash{}, api.ErrAlike
	}
	return unlike(texts(p), texts(q))
}

// dueOfMixed is what the chapter's words say of a key's proof and a range's.
func dueOfMixed(f api.Frame, root api.Digest, key, p string, r keyRange, q string) (api.Clash, api.Errno) {
	a, e := proof.Read(f, root, key, p)
	pairs, code := span.Read(f, root, r.lo, r.hi, q)
	switch {
	case e == api.ErrArg || !r.has(key):
		return api.Clash{}, api.ErrArg
	case e != api.OK || code != api.OK:
		return api.Clash{}, api.ErrRefused
	}
	b := api.Answer{}
	for _, x := range pairs {
		if x.Key == key {
			b = api.Answer{Found: true, Val: x.Val}
		}
	}
	if a == b {
		return api.Clash{}, api.ErrAlike
	}
	return unlike(texts(p), wayIn(f, key, r, texts(q)))
}

// wayIn are those forms of a range's proof that stand on the way of a key of the range.
func wayIn(f api.Frame, key string, r keyRange, forms []string) []string {
	if len(forms) == 0 {
		return nil
	}
	n, _ := node.Read(f, forms[0])
	at := 1
	for i := range n.Kids {
		if !r.mayHave(n, i) {
			continue
		}
		if i == graft.Way(n, key) {
			return append([]string{forms[0]}, wayIn(f, key, r, forms[at:])...)
		}
		at += many(f, r, forms[at:])
	}
	return forms[:1]
}

// many is how many of the forms belong to the first one.
func many(f api.Frame, r keyRange, forms []string) int {
	n, _ := node.Read(f, forms[0])
	at := 1
	for i := range n.Kids {
		if r.mayHave(n, i) {
			at += many(f, r, forms[at:])
		}
	}
	return at
}

// step is a node that a tree's Walk tells, or the error that ends it.
type step struct {
	api.Spot
	api.Errno
}

// steps are all of a tree's. The empty one has the empty leaf.
func steps(t *trunk.Tree) []step {
	if t.Root().Page == 0 {
		return []step{{}}
	}
	var l []step
	for s, e := range t.Walk() {
		l = append(l, step{s, e})
	}
	return l
}

// dueOfTrees is what the chapter's words say of two trees of one frame and root digest, and how many nodes of the one and of the other are got.
func dueOfTrees(t *testing.T, one, two *trunk.Tree) (api.Clash, api.Errno, int, int) {
	t.Helper()
	a, b := steps(one), steps(two)
	for i := range a {
		if a[i].Errno != api.OK {
			return api.Clash{}, a[i].Errno, i + 1, i
		}
		if b[i].Errno != api.OK {
			return api.Clash{}, b[i].Errno, i + 1, i + 1
		}
		x, y := plain(t, one.Frame(), a[i].Node), plain(t, two.Frame(), b[i].Node)
		if x != y {
			return api.Clash{One: textOfForm(x), Two: textOfForm(y)}, api.OK, i + 1, i + 1
		}
	}
	return api.Clash{}, api.ErrAlike, len(a), len(b)
}

// told is what a call of this package answered.
type told struct {
	clash api.Clash
	code  api.Errno
}

func tell(c api.Clash, e api.Errno) told { return told{c, e} }

// short is what is told of in a complaint.
func (x told) short() string { return fmt.Sprintf("%v %.60q %.60q", x.code, x.clash.One, x.clash.Two) }

// is complains, if what was told is not what is due, or if it is no clash (17.6).
func is(t *testing.T, what string, f api.Frame, got, want told) {
	t.Helper()
	if got != want {
		t.Errorf("%s: %v: %s, and not %s", what, f, got.short(), want.short())
	}
	holds := sums.Clash(f.Width, got.clash.One, got.clash.Two)
	if holds != (got.code == api.OK) || clash.Holds(f, got.clash) != holds {
		t.Errorf("%s: %v: %s: holds: %t", what, f, got.short(), holds)
	}
}

// clashes complains, if no clash of just these two nodes was told.
func clashes(t *testing.T, what string, f api.Frame, got told, one, two api.Node) {
	t.Helper()
	is(t, what, f, got, told{api.Clash{One: textOfForm(plain(t, f, one)), Two: textOfForm(plain(t, f, two))}, api.OK})
}

// fails complains, if not just this error was told.
func fails(t *testing.T, what string, f api.Frame, got told, code api.Errno) {
	t.Helper()
	is(t, what, f, got, told{api.Clash{}, code})
}

// keysOf are the keys of a twig's leaves.
func keysOf(w *twig) []string {
	var l []string
	for _, p := range w.Pairs {
		l = append(l, p.Key)
	}
	for _, k := range w.under {
		l = append(l, keysOf(k)...)
	}
	return l
}

// ways are the ways of all nodes of a twig.
func ways(w *twig) [][]int {
	l := [][]int{nil}
	for i, k := range w.under {
		for _, way := range ways(k) {
			l = append(l, append([]int{i}, way...))
		}
	}
	return l
}

// at is the twig that a way leads to, and the numbers between which its keys lie.
func at(w *twig, lo, hi int, way []int) (*twig, int, int) {
	for _, i := range way {
		if i > 0 {
			lo, _ = strconv.Atoi(w.Seps[i-1])
		}
		if i < len(w.Seps) {
			hi, _ = strconv.Atoi(w.Seps[i])
		}
		w = w.under[i]
	}
	return w, lo, hi
}

// some is one of several by chance.
func some[T any](r *rand.Rand, l []T) T { return l[r.Intn(len(l))] }
