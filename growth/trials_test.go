package growth_test

import (
	"maps"
	"math/rand"
	"slices"
	"strings"
	"testing"

	"heartwood/api"
	"heartwood/growth"
	"heartwood/node"
	"heartwood/trunk"
)

// trial is an Edit whose calls are held against the rule, one by one: what is answered, which nodes are read, what the tree is then, and whether the source is what it was.
type trial struct {
	t     *testing.T
	f     api.Frame
	x     *growth.Edit
	s     *well
	due   *rule
	kept  func() bool
	pairs map[string]string // what a plain map has; nil, if the base is no whole tree
	names map[uint32]*bud   // whose each number is that was given to a dirty node
	seen  map[api.Errno]int
}

func newTrial(t *testing.T, f api.Frame, s *well, root api.Root) *trial {
	t.Helper()
	s.asked = nil
	y := &trial{t: t, f: f, x: edit(t, f, s, root), s: s, due: newRule(f, s, root), kept: s.kept(), names: map[uint32]*bud{}, seen: map[api.Errno]int{}}
	if len(s.asked) > 0 {
		t.Fatal("New asks the source", s.asked)
	}
	y.whole()
	return y
}

// trialOf is one of a twig (nil: of the empty tree) that is a whole tree.
func trialOf(t *testing.T, f api.Frame, w *twig) *trial {
	t.Helper()
	s, root := laid(f, w)
	y := newTrial(t, f, s, root)
	y.pairs = map[string]string{}
	if w != nil {
		for _, p := range pairsOf(w) {
			y.pairs[p.Key] = p.Val
		}
	}
	y.plain()
	return y
}

// bareTrial is one of a twig of which some nodes are bare.
func bareTrial(t *testing.T, f api.Frame, w *twig) *trial {
	t.Helper()
	s, root := laid(f, w)
	return newTrial(t, f, s, root)
}

// copied is a trial of a Copy.
func (y *trial) copied() *trial {
	y.t.Helper()
	c := *y
	c.x, c.due, c.names, c.pairs = y.x.Copy(), y.due.copied(), maps.Clone(y.names), maps.Clone(y.pairs)
	if c.x == y.x {
		y.t.Fatal("Copy answers the Edit itself")
	}
	c.whole()
	return &c
}

// state is all that an Edit tells of itself.
type state struct {
	root    api.Root
	changed int
	freed   []uint32
	nodes   map[uint32]api.Node
}

func (y *trial) state() state {
	s := state{y.x.Root(), y.x.Changed(), y.x.Freed(), map[uint32]api.Node{}}
	for no := range y.names {
		if n, e := y.x.Node(no); e == api.OK {
			s.nodes[no] = n
		}
	}
	return s
}

func (s state) same(o state) bool {
	return s.root == o.root && s.changed == o.changed && slices.Equal(s.freed, o.freed) && maps.EqualFunc(s.nodes, o.nodes, node.Same)
}

// put holds a Put against the rule, and answers its error.
func (y *trial) put(key, val string) api.Errno {
	y.t.Helper()
	was := y.state()
	levels := y.due.wayDown(key)
	y.s.asked = nil
	had, e := y.x.Put(key, val)
	asked := y.s.asked
	ruled, due := y.due.put(key, val)
	if had != ruled || e != due || !slices.Equal(asked, y.due.asked) {
		y.t.Fatalf("%v: Put(%.70q, %d bytes): %v %v and %v asked, and not %v %v and %v", y.f, key, len(val), had, e, asked, ruled, due, y.due.asked)
	}
	v, is := y.pairs[key]
	y.behind(was, levels, e != api.OK || is && v == val)
	if y.pairs != nil && e == api.OK {
		if had != is {
			y.t.Fatalf("%v: Put(%.70q): %v", y.f, key, had)
		}
		y.pairs[key] = val
	}
	y.seen[e]++
	return e
}

// remove holds a Delete against the rule, and answers its error.
func (y *trial) remove(key string) api.Errno {
	y.t.Helper()
	was := y.state()
	levels := y.due.wayDown(key)
	y.s.asked = nil
	had, e := y.x.Delete(key)
	asked := y.s.asked
	ruled, due := y.due.remove(key)
	if had != ruled || e != due || !slices.Equal(asked, y.due.asked) {
		y.t.Fatalf("%v: Delete(%.70q): %v %v and %v asked, and not %v %v and %v", y.f, key, had, e, asked, ruled, due, y.due.asked)
	}
	y.behind(was, levels, !had)
	if y.pairs != nil && e == api.OK {
		if _, is := y.pairs[key]; had != is {
			y.t.Fatalf("%v: Delete(%.70q): %v", y.f, key, had)
		}
		delete(y.pairs, key)
	}
	y.seen[e]++
	return e
}

// behind holds what a call has made of the tree against the rule, where nothing is to have changed against what was, and how much was made anew against the levels that the tree had.
func (y *trial) behind(was state, levels int, unchanged bool) {
	y.t.Helper()
	y.whole()
	now := y.state()
	if unchanged && !now.same(was) {
		y.t.Fatalf("%v: nothing was to change: %v %d %v, and was %v %d %v", y.f, now.root, now.changed, now.freed, was.root, was.changed, was.freed)
	}
	if now.changed-was.changed > 2*levels+1 || len(now.freed)-len(was.freed) > 2*levels {
		y.t.Fatalf("%v: of %d levels: %d nodes more are changed, %d more are freed", y.f, levels, now.changed-was.changed, len(now.freed)-len(was.freed))
	}
	if !y.kept() {
		y.t.Fatalf("%v: what the source keeps was changed", y.f)
	}
}

// whole holds Root, Base, Frame, Changed, Freed and every dirty node against the rule, and sees to it that none of these asks the source.
func (y *trial) whole() {
	y.t.Helper()
	y.s.asked = nil
	due := y.due
	root := api.Root{Sum: due.digest(due.root), Count: due.count}
	got := y.x.Root()
	switch {
	case due.root == nil:
	case due.root.no != 0:
		root.Page, root.Version = due.base.Page, due.base.Version
	default:
		root.Page = max(got.Page, dirty)
	}
	if got != root {
		y.t.Fatalf("%v: Root: %v, and not %v", y.f, got, root)
	}
	freed := slices.Sorted(maps.Keys(due.freed))
	if y.x.Base() != due.base || y.x.Frame() != y.f || y.x.Changed() != len(due.made()) || !slices.Equal(y.x.Freed(), freed) {
		y.t.Fatalf("%v: Base %v, Changed %d, Freed %v; and not %v, %d, %v", y.f, y.x.Base(), y.x.Changed(), y.x.Freed(), due.base, len(due.made()), freed)
	}
	met := map[uint32]bool{}
	if due.root != nil {
		y.under(due.root, got.Page, met)
	}
	for no := range y.names {
		if n, e := y.x.Node(no); !met[no] && (e != api.ErrArg || !node.Same(n, api.Node{})) {
			y.t.Fatalf("%v: Node of %d, which is the tree's no more: %v", y.f, no, e)
		}
	}
	if len(y.s.asked) > 0 {
		y.t.Fatalf("%v: the source was asked for %v", y.f, y.s.asked)
	}
}

// under holds the node of a number, and the dirty ones below it, against the rule's.
func (y *trial) under(b *bud, no uint32, met map[uint32]bool) {
	y.t.Helper()
	if b.no != 0 {
		if no != b.no {
			y.t.Fatalf("%v: the base's node %d is named %d", y.f, b.no, no)
		}
		return
	}
	if y.names[no] == nil {
		y.names[no] = b
	}
	if no < dirty || met[no] || y.names[no] != b {
		y.t.Fatalf("%v: a dirty node is named %d, which is another one's", y.f, no)
	}
	met[no] = true
	n, e := y.x.Node(no)
	if e != api.OK || !slices.Equal(n.Pairs, b.pairs) || !slices.Equal(n.Seps, b.seps) || len(n.Kids) != len(b.kids) {
		y.t.Fatalf("%v: Node(%d): %v %v, and not %v", y.f, no, n, e, b)
	}
	for i, k := range n.Kids {
		if k.Sum != y.due.digest(b.kids[i]) {
			y.t.Fatalf("%v: a kid of %d has another digest", y.f, no)
		}
		y.under(b.kids[i], k.Page, met)
	}
	scribble(n) // what is answered is nobody else's: the next call is held against the rule, too
}

// scribble writes over a node's lists, the room behind them included.
func scribble(n api.Node) {
	n = stretched(n)
	for i := range n.Pairs {
		n.Pairs[i] = api.Pair{Key: "scribble", Val: "scribble"}
	}
	for i := range n.Seps {
		n.Seps[i] = "scribble"
	}
	for i := range n.Kids {
		n.Kids[i] = api.Kid{Page: 999, Sum: api.Digest{9}}
	}
}

// read answers the pairs of a tree, and the numbers of its nodes, if it is well formed.
func read(t *testing.T, f api.Frame, s trunk.Source, root api.Root) (map[string]string, []uint32) {
	t.Helper()
	tree, e := trunk.New(f, s, root)
	if e != api.OK {
		t.Fatalf("%v: no tree of %v: %v", f, root, e)
	}
	return readTree(t, tree)
}

func readTree(t *testing.T, tree *trunk.Tree) (map[string]string, []uint32) {
	t.Helper()
	if _, e := tree.Shape(); e != api.OK {
		t.Fatalf("%v: not well formed: %v", tree.Frame(), e)
	}
	pairs := map[string]string{}
	var numbers []uint32
	for spot, e := range tree.Walk() {
		if e != api.OK {
			t.Fatal(e)
		}
		numbers = append(numbers, spot.Page)
		for _, p := range spot.Node.Pairs {
			pairs[p.Key] = p.Val
		}
	}
	return pairs, numbers
}

// plain holds the Edit's tree against the plain map of its pairs, and the numbers of its nodes against those of the base's.
func (y *trial) plain() {
	y.t.Helper()
	tree, e := y.x.Tree()
	if e != api.OK || tree.Root() != y.x.Root() || tree.Frame() != y.f || tree.Source != trunk.Source(y.x) {
		y.t.Fatalf("%v: Tree: %v", y.f, e)
	}
	pairs, numbers := readTree(y.t, tree)
	if !maps.Equal(pairs, y.pairs) {
		y.t.Fatalf("%v: the tree has %d pairs, and not the %d that it should", y.f, len(pairs), len(y.pairs))
	}
	clean := slices.DeleteFunc(slices.Clone(numbers), func(no uint32) bool { return no >= dirty })
	if len(numbers)-len(clean) != y.x.Changed() {
		y.t.Fatalf("%v: Changed is %d, and %d nodes are dirty", y.f, y.x.Changed(), len(numbers)-len(clean))
	}
	_, base := read(y.t, y.f, y.s, y.x.Base())
	both := append(clean, y.x.Freed()...)
	slices.Sort(both)
	slices.Sort(base)
	if !slices.Equal(both, base) {
		y.t.Fatalf("%v: the base has the nodes %v; left or freed are %v", y.f, base, both)
	}
	if !y.kept() {
		y.t.Fatalf("%v: what the source keeps was changed", y.f)
	}
}

// numbersFor are so many numbers of pages, in an order that says nothing, that no node has which the base keeps, unless they are to be any.
func (y *trial) numbersFor(r *rand.Rand, many int) []uint32 {
	used := map[uint32]bool{}
	for no := range y.s.nodes {
		used[no] = true
	}
	for _, no := range y.x.Freed() {
		used[no] = false
	}
	var l []uint32
	for len(l) < many {
		no := uint32(2 + r.Intn(3*(many+len(used))))
		if !used[no] {
			used[no] = true
			l = append(l, no)
		}
	}
	return l
}

// lay holds Lay against the rule, twice, and answers the pages and the root.
func (y *trial) lay(version uint64, at []uint32) ([]api.Page, api.Root) {
	y.t.Helper()
	made := y.due.made()
	on := map[*bud]uint32{}
	var want []api.Page
	for i, b := range made {
		n := b.face()
		for j, k := range b.kids {
			n.Kids[j] = api.Kid{Page: on[k], Sum: y.due.digest(k)}
			if k.no != 0 {
				n.Kids[j].Page = k.no
			}
		}
		body, e := node.Pack(y.f, n)
		if e != api.OK {
			y.t.Fatalf("%v: the rule lays no page: %v", y.f, e)
		}
		kind := api.PageKind(1)
		if len(b.kids) > 0 {
			kind = 2
		}
		on[b] = at[i]
		want = append(want, api.Page{Kind: kind, No: at[i], Version: version, Body: body})
	}
	root := y.x.Root()
	if len(made) > 0 {
		root.Page, root.Version = at[len(at)-1], version
	}
	was := y.state()
	for range 2 {
		given := append(slices.Clone(at), 5, 6)[:len(at)]
		y.s.asked = nil
		pages, r, e := y.x.Lay(version, given)
		if e != api.OK || !slices.Equal(pages, want) || r != root {
			y.t.Fatalf("%v: Lay(%d, %v): %d pages, %v, %v; and not %d, %v", y.f, version, at, len(pages), r, e, len(want), root)
		}
		if !slices.Equal(given[:len(at)+2], append(slices.Clone(at), 5, 6)) || len(y.s.asked) > 0 || !y.state().same(was) {
			y.t.Fatalf("%v: Lay changes the numbers that it is given, the Edit, or asks the source", y.f)
		}
		clear(pages[:cap(pages)])
	}
	return want, root
}

// committed lays the tree, and answers a trial of the tree that the pages hold, with what the base keeps.
func (y *trial) committed(r *rand.Rand, version uint64) *trial {
	y.t.Helper()
	pages, root := y.lay(version, y.numbersFor(r, y.x.Changed()))
	s := newWell()
	for no, n := range y.s.nodes {
		if !slices.Contains(y.x.Freed(), no) {
			s.nodes[no] = n
		}
	}
	for _, p := range pages {
		n, e := node.Unpack(y.f, p.Body)
		if _, has := s.nodes[p.No]; has || e != api.OK {
			y.t.Fatalf("%v: the page %d: %v", y.f, p.No, e)
		}
		s.nodes[p.No] = roomy(n)
	}
	pairs, numbers := read(y.t, y.f, s, root)
	if !maps.Equal(pairs, y.pairs) || root.Sum != y.x.Root().Sum || len(numbers) != len(s.nodes) {
		y.t.Fatalf("%v: what was laid is another tree: %d pairs for %d, %d nodes for %d", y.f, len(pairs), len(y.pairs), len(numbers), len(s.nodes))
	}
	next := newTrial(y.t, y.f, s, root)
	next.pairs, next.seen = pairs, y.seen
	next.plain()
	return next
}

// keys are the keys that the tree has, rising.
func (y *trial) keys() []string { return slices.Sorted(maps.Keys(y.pairs)) }

// step makes a Put or a Delete by chance: of keys that are there, beside them, and of others; more that make the tree greater, or more that make it smaller, as more says (of ten).
func (y *trial) step(r *rand.Rand, more int) {
	y.t.Helper()
	keys := y.keys()
	key := textOf(r, y.f.Page/16)
	if len(keys) > 0 && r.Intn(3) > 0 {
		key = keys[r.Intn(len(keys))]
		if r.Intn(6) == 0 && len(key) < y.f.Page/16 {
			key += "\x00"
		}
	}
	switch val := strings.Repeat("w", r.Intn(y.f.Page/8+1)); {
	case r.Intn(12) == 0:
		y.put(key, y.pairs[key])
	case r.Intn(10) < more:
		y.put(key, val)
	default:
		y.remove(key)
	}
}
