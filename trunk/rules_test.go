package trunk_test

import (
	"fmt"
	"slices"
	"testing"

	"heartwood/api"
	"heartwood/graft"
	"heartwood/node"
	"heartwood/trunk"
)

// rule is what a tree is to answer by the words of the chapter, reckoned from the ways of its nodes, and what it may ask for.
type rule struct {
	f     api.Frame
	s     *well
	root  api.Root
	had   map[string]api.Node // what was got, by its way
	asked []uint32
}

func newRule(f api.Frame, s *well, root api.Root) *rule {
	return &rule{f: f, s: s, root: root, had: map[string]api.Node{}}
}

// named is a way as a text; a branch has fewer kids than there are runes.
func named(way []int) string {
	var runes []rune
	for _, i := range way {
		runes = append(runes, rune(i))
	}
	return string(runes)
}

// parted answers a way's last number, and the node that it is counted in.
func (r *rule) parted(way []int) (int, api.Node) {
	last := len(way) - 1
	return way[last], r.had[named(way[:last])]
}

// bounds answers those of the node of a way; nil is one that is missing.
func (r *rule) bounds(way []int) (lower, upper *string) {
	if len(way) == 0 {
		return nil, nil
	}
	lower, upper = r.bounds(way[:len(way)-1])
	i, b := r.parted(way)
	if i != 0 {
		lower = &b.Seps[i-1]
	}
	if i != len(b.Kids)-1 {
		upper = &b.Seps[i]
	}
	return lower, upper
}

// within tells whether the keys and separators of a node lie between bounds.
func within(n api.Node, lower, upper *string) bool {
	for _, p := range n.Pairs {
		if lower != nil && p.Key < *lower || upper != nil && p.Key >= *upper {
			return false
		}
	}
	for _, s := range n.Seps {
		if lower != nil && s <= *lower || upper != nil && s >= *upper {
			return false
		}
	}
	return true
}

// get is to get the node of a way whose parent was got.
func (r *rule) get(way []int) (api.Node, api.Errno) {
	if len(way) >= 33 {
		return api.Node{}, api.ErrBad
	}
	no, sum := r.root.Page, r.root.Sum
	if len(way) > 0 {
		i, b := r.parted(way)
		no, sum = b.Kids[i].Page, b.Kids[i].Sum
	}
	r.asked = append(r.asked, no)
	n, e := r.s.tells(no)
	if e != api.OK {
		return api.Node{}, e
	}
	got, e := node.Sum(r.f, n)
	lower, upper := r.bounds(way)
	if e != api.OK || got != sum || len(n.Pairs)+len(n.Kids) == 0 || !within(n, lower, upper) {
		return api.Node{}, api.ErrBad
	}
	r.had[named(way)] = n
	return n, api.OK
}

func (r *rule) at(way []int) (api.Node, api.Errno) {
	if r.root.Page == 0 && len(way) == 0 {
		return api.Node{}, api.OK
	}
	if r.root.Page == 0 {
		return api.Node{}, api.ErrWay
	}
	n, e := r.get(nil)
	for i := 0; e == api.OK && i < len(way); i++ {
		if way[i] < 0 || way[i] >= len(n.Kids) {
			return api.Node{}, api.ErrWay
		}
		n, e = r.get(way[:i+1])
	}
	return n, e
}

// on goes on from a way down, in each branch to the kid that is picked, and answers the spots.
func (r *rule) on(way []int, pick func(api.Node) int) ([]api.Spot, api.Errno) {
	n, e := r.get(way)
	if e != api.OK {
		return nil, e
	}
	no := r.root.Page
	if len(way) > 0 {
		i, b := r.parted(way)
		no = b.Kids[i].Page
	}
	l := []api.Spot{{Way: way, Page: no, Node: n}}
	if len(n.Kids) == 0 {
		return l, api.OK
	}
	more, e := r.on(append(slices.Clone(way), pick(n)), pick)
	if e != api.OK {
		return nil, e
	}
	return append(l, more...), api.OK
}

func (r *rule) path(key string) ([]api.Spot, api.Errno) {
	if r.root.Page == 0 {
		return nil, api.OK
	}
	return r.on(nil, func(n api.Node) int { return graft.Way(n, key) })
}

func (r *rule) value(key string) (string, bool, api.Errno) {
	l, e := r.path(key)
	if e != api.OK || len(l) == 0 {
		return "", false, e
	}
	for _, p := range l[len(l)-1].Node.Pairs {
		if p.Key == key {
			return p.Val, true, api.OK
		}
	}
	return "", false, api.OK
}

func (r *rule) floor(key string) (api.Pair, bool, api.Errno) {
	l, e := r.path(key)
	if e != api.OK || len(l) == 0 {
		return api.Pair{}, false, e
	}
	leaf := l[len(l)-1]
	for _, p := range slices.Backward(leaf.Node.Pairs) {
		if p.Key <= key {
			return p, true, api.OK
		}
	}
	way := slices.Clone(leaf.Way)
	for len(way) > 0 && way[len(way)-1] == 0 {
		way = way[:len(way)-1]
	}
	if len(way) == 0 {
		return api.Pair{}, false, api.OK
	}
	way[len(way)-1]--
	l, e = r.on(way, func(n api.Node) int { return len(n.Kids) - 1 })
	if e != api.OK {
		return api.Pair{}, false, e
	}
	pairs := l[len(l)-1].Node.Pairs
	return pairs[len(pairs)-1], true, api.OK
}

func (r *rule) ceil(key string) (api.Pair, bool, api.Errno) {
	l, e := r.path(key)
	if e != api.OK || len(l) == 0 {
		return api.Pair{}, false, e
	}
	leaf := l[len(l)-1]
	for _, p := range leaf.Node.Pairs {
		if p.Key >= key {
			return p, true, api.OK
		}
	}
	way := slices.Clone(leaf.Way)
	for len(way) > 0 && way[len(way)-1] == len(l[len(way)-1].Node.Kids)-1 {
		way = way[:len(way)-1]
	}
	if len(way) == 0 {
		return api.Pair{}, false, api.OK
	}
	way[len(way)-1]++
	l, e = r.on(way, func(n api.Node) int { return 0 })
	if e != api.OK {
		return api.Pair{}, false, e
	}
	return l[len(l)-1].Node.Pairs[0], true, api.OK
}

// walk answers what is told ahead of an error, or of the end, and the error.
func (r *rule) walk(way ...int) ([]api.Spot, api.Errno) {
	if r.root.Page == 0 {
		return nil, api.OK
	}
	n, e := r.get(way)
	if e != api.OK {
		return nil, e
	}
	no := r.root.Page
	if len(way) > 0 {
		i, b := r.parted(way)
		no = b.Kids[i].Page
	}
	l := []api.Spot{{Way: way, Page: no, Node: n}}
	for i := range n.Kids {
		more, e := r.walk(append(slices.Clone(way), i)...)
		l = append(l, more...)
		if e != api.OK {
			return l, e
		}
	}
	return l, api.OK
}

func (r *rule) pages() ([]uint32, api.Errno) {
	l, e := r.walk()
	if e != api.OK {
		return nil, e
	}
	var numbers []uint32
	for _, s := range l {
		numbers = append(numbers, s.Page)
	}
	return numbers, api.OK
}

func (r *rule) shape() (api.Shape, api.Errno) {
	l, e := r.walk()
	if e != api.OK || len(l) == 0 {
		return api.Shape{}, e
	}
	var depths, sizes []int
	count := uint64(0)
	for _, s := range l {
		count += uint64(len(s.Node.Pairs))
		if len(s.Node.Kids) == 0 {
			depths = append(depths, len(s.Way)+1)
		}
		if len(s.Way) != 0 {
			sizes = append(sizes, node.Size(r.f, s.Node))
		}
	}
	least := 0
	if len(sizes) > 0 {
		least = slices.Min(sizes)
	}
	third := (r.f.Page - 32 + 2) / 3
	if slices.Min(depths) != slices.Max(depths) || len(sizes) > 0 && least < third || count != r.root.Count {
		return api.Shape{}, api.ErrTree
	}
	return api.Shape{Height: depths[0], Leaves: len(depths), Branches: len(l) - len(depths), Count: count, Least: least}, api.OK
}

// alike tells whether two spots are, whether lists are nil or empty.
func alike(a, b api.Spot) bool {
	return slices.Equal(a.Way, b.Way) && a.Page == b.Page && node.Same(a.Node, b.Node)
}

// scribble writes over all that a spot is made of, the room behind it included.
func scribble(s api.Spot) {
	for i := range s.Way[:cap(s.Way)] {
		s.Way[:cap(s.Way)][i] = -9
	}
	for i := range s.Node.Pairs[:cap(s.Node.Pairs)] {
		s.Node.Pairs[:cap(s.Node.Pairs)][i] = api.Pair{Key: "scribble", Val: "scribble"}
	}
	for i := range s.Node.Seps[:cap(s.Node.Seps)] {
		s.Node.Seps[:cap(s.Node.Seps)][i] = "scribble"
	}
	for i := range s.Node.Kids[:cap(s.Node.Kids)] {
		s.Node.Kids[:cap(s.Node.Kids)][i] = api.Kid{Page: 999, Sum: api.Digest{9}}
	}
}

// trial is a tree that is held against its rule, call by call: what is answered, what is asked for, and whether the source is what it was.
type trial struct {
	t    *testing.T
	f    api.Frame
	s    *well
	root api.Root
	x    *trunk.Tree
	due  *rule
	kept func() bool
}

func newTrial(t *testing.T, f api.Frame, s *well, root api.Root) *trial {
	t.Helper()
	return &trial{t: t, f: f, s: s, root: root, x: tree(t, f, s, root), kept: s.kept()}
}

// begin is called ahead of each call.
func (y *trial) begin() {
	y.due = newRule(y.f, y.s, y.root)
	y.s.asked = nil
}

// end complains, if a call was not answered as is due (fine tells that), if another number was asked for than it needs, or if it changed what the source keeps.
func (y *trial) end(fine bool, what string, args ...any) {
	y.t.Helper()
	if !fine {
		y.t.Fatalf("%v %v: %s", y.f, y.root, fmt.Sprintf(what, args...))
	}
	if !slices.Equal(y.s.asked, y.due.asked) {
		y.t.Fatalf("%s: asked for %v, and not for %v", fmt.Sprintf(what, args...), y.s.asked, y.due.asked)
	}
	if !y.kept() {
		y.t.Fatalf("%s: what the source keeps was changed", fmt.Sprintf(what, args...))
	}
}

func (y *trial) at(way []int) api.Errno {
	y.t.Helper()
	y.begin()
	arg := append(slices.Clone(way), 5, 6)
	n, e := y.x.At(arg[:len(way)]...)
	want, due := y.due.at(way)
	fine := node.Same(n, want) && e == due && slices.Equal(arg, append(slices.Clone(way), 5, 6))
	scribble(api.Spot{Node: n})
	y.end(fine, "At(%v): %v, and not %v", way, e, due)
	return e
}

func (y *trial) path(key string) api.Errno {
	y.t.Helper()
	y.begin()
	l, e := y.x.Path(key)
	want, due := y.due.path(key)
	fine := len(l) == len(want) && e == due
	for i := range min(len(l), len(want)) {
		// Those ahead are scribbled over by now: none is to share memory with another one.
		fine = fine && alike(l[i], want[i])
		scribble(l[i])
	}
	y.end(fine, "Path(%.70q): %d %v, and not %d %v", key, len(l), e, len(want), due)
	return e
}

func (y *trial) get(key string) api.Errno {
	y.t.Helper()
	y.begin()
	v, is, e := y.x.Get(key)
	want, was, due := y.due.value(key)
	y.end(v == want && is == was && e == due, "Get(%.70q): %q %v %v, and not %q %v %v", key, v, is, e, want, was, due)
	return e
}

func (y *trial) floor(key string) api.Errno {
	y.t.Helper()
	y.begin()
	p, is, e := y.x.Floor(key)
	want, was, due := y.due.floor(key)
	y.end(p == want && is == was && e == due, "Floor(%.70q): %.70q %v %v, and not %.70q %v %v", key, p, is, e, want, was, due)
	return e
}

func (y *trial) ceil(key string) api.Errno {
	y.t.Helper()
	y.begin()
	p, is, e := y.x.Ceil(key)
	want, was, due := y.due.ceil(key)
	y.end(p == want && is == was && e == due, "Ceil(%.70q): %.70q %v %v, and not %.70q %v %v", key, p, is, e, want, was, due)
	return e
}

// walk goes through, scribbles over each spot when it is told, and sees to it that each node is asked for when it is its turn.
func (y *trial) walk() api.Errno {
	y.t.Helper()
	y.begin()
	want, due := y.due.walk()
	at, end := 0, api.OK
	for s, e := range y.x.Walk() {
		if end != api.OK || len(y.s.asked) != min(at+1, len(y.due.asked)) {
			y.t.Fatalf("Walk: told %v behind %v, with %v asked", e, end, y.s.asked)
		}
		if e != api.OK {
			y.end(at == len(want) && alike(s, api.Spot{}), "Walk: %v %v at %d, and not %v at %d", s, e, at, due, len(want))
			end = e
			continue
		}
		if at >= len(want) || !alike(s, want[at]) {
			y.t.Fatalf("Walk: %v at %d of %d", s, at, len(want))
		}
		scribble(s)
		at++
	}
	y.end(at == len(want) && end == due, "Walk: %v at %d, and not %v at %d", end, at, due, len(want))
	return end
}

func (y *trial) pages() api.Errno {
	y.t.Helper()
	y.begin()
	l, e := y.x.Pages()
	want, due := y.due.pages()
	y.end(slices.Equal(l, want) && e == due, "Pages: %v %v, and not %v %v", l, e, want, due)
	return e
}

func (y *trial) shape() api.Errno {
	y.t.Helper()
	y.begin()
	s, e := y.x.Shape()
	want, due := y.due.shape()
	y.end(s == want && e == due, "Shape: %v %v, and not %v %v", s, e, want, due)
	return e
}

// key makes all calls that have a key.
func (y *trial) key(key string) {
	y.t.Helper()
	y.path(key)
	y.get(key)
	y.floor(key)
	y.ceil(key)
}

// whole makes all calls that go over the whole tree.
func (y *trial) whole() {
	y.t.Helper()
	y.walk()
	y.walk()
	y.pages()
	y.shape()
}

// all makes all calls, with the keys and ways that a twig suggests.
func (y *trial) all(w *twig) {
	y.t.Helper()
	y.whole()
	for _, way := range waysOf(w) {
		y.at(way)
	}
	for _, key := range questions(w) {
		y.key(key)
	}
}
