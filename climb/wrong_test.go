package climb_test

import (
	"fmt"
	"math/rand"
	"slices"
	"strings"
	"testing"

	"heartwood/api"
	"heartwood/climb"
	"heartwood/node"
)

// all makes all calls of a trial, with ranges and keys by chance out of what a twig suggests, and answers how many were answered by each error.
func (y *trial) all(r *rand.Rand, w *twig) map[api.Errno]int {
	y.t.Helper()
	keys := texts(w)
	y.span(r, "", "")
	for range 12 {
		y.span(r, keys[r.Intn(len(keys))], keys[r.Intn(len(keys))])
	}
	for _, key := range picked(r, keys, 8) {
		y.span(r, key, "")
		y.span(r, "", key)
	}
	v := y.ride()
	for _, key := range keys {
		v.do("Seek", key)
	}
	v.wander(r, keys, 60)
	return y.seen
}

// TestNotBelieved lays trees of which one node is wrong in one way. All digests are those of what is there: so it is this way alone for which it is refused.
func TestNotBelieved(t *testing.T) {
	r := rand.New(rand.NewSource(4))
	left := func() *twig { return leafOf(11, "b=1", "d=2") }
	right := func() *twig { return leafOf(13, "r=5") }
	// under has a node under the separators f and p of the root.
	under := func(w *twig) *twig { return branchOf(30, left(), "f", w, "p", right()) }
	pair := func(seps ...any) *twig { return branchOf(12, seps...) }
	full := leafOf(12)
	for i := range 8 {
		full.pairs = append(full.pairs, api.Pair{Key: "g" + fmt.Sprint(i), Val: strings.Repeat("v", 128)})
	}
	for _, c := range []struct {
		what  string
		w     *twig
		wrong uint32 // the number of the node that is refused; 0: none is
	}{
		{"a leaf between its bounds", under(leafOf(12, "f=1", "o\xff\xff=2")), 0},
		{"a key just below the lower bound", under(leafOf(12, "e\xff\xff=1", "h=2")), 12},
		{"the upper bound as a key", under(leafOf(12, "h=1", "p=2")), 12},
		{"a key above the upper bound", under(leafOf(12, "h=1", "p\x00=2")), 12},
		{"a key far below", under(leafOf(12, "a=2")), 12},
		{"a key far above", under(leafOf(12, "z=2")), 12},
		{"a first leaf with a key at its upper bound", branchOf(30, leafOf(11, "b=1", "f=2"), "f", right()), 11},
		{"a last leaf with a key below its lower bound", branchOf(30, left(), "f", leafOf(13, "e=5")), 13},
		{"a first leaf with the least key", branchOf(30, leafOf(11, "\x00=1"), "f", right()), 0},
		{"a last leaf with a great key", branchOf(30, left(), "f", leafOf(13, strings.Repeat("\xff", 64)+"=5")), 0},
		{"a branch between its bounds", under(pair(leafOf(14, "f=1"), "f\x00", leafOf(15, "f\x00=1"), "o", leafOf(16, "o=1"))), 0},
		{"the lower bound as a separator", under(pair(leafOf(14, "f=1"), "f", leafOf(15, "g=1"))), 12},
		{"a separator below the lower bound", under(pair(leafOf(14, "f=1"), "e", leafOf(15, "g=1"))), 12},
		{"the upper bound as a separator", under(pair(leafOf(14, "f=1"), "p", leafOf(15, "p=1"))), 12},
		{"a separator above the upper bound", under(pair(leafOf(14, "f=1"), "q", leafOf(15, "r=1"))), 12},
		{"one of two separators beyond", under(pair(leafOf(14, "f=1"), "g", leafOf(15, "g=1"), "p\x00", leafOf(16, "z=1"))), 12},
		{"a branch on the left with the root's separator", branchOf(30, branchOf(12, left(), "f", leafOf(14, "g=1")), "f", right()), 12},
		{"a branch on the right with the root's separator", branchOf(30, left(), "f", branchOf(12, leafOf(14, "g=1"), "f", right())), 12},
		// The bounds of those above hold at the outer kids, too.
		{"a key below the branch's own lower bound", under(pair(leafOf(14, "e=1", "f=2"), "g", leafOf(15, "g=1"))), 14},
		{"a key at the branch's own upper bound", under(pair(leafOf(14, "f=2"), "g", leafOf(15, "g=1", "p=2"))), 15},
		{"a key at the branch's own lower bound", under(pair(leafOf(14, "f=2"), "g", leafOf(15, "g=1"))), 0},
		{"a separator at the lower bound two levels up", under(pair(branchOf(14, leafOf(16, "f=1"), "f", leafOf(17, "f=1")), "g", leafOf(15, "g=1"))), 14},
		{"a separator at the upper bound two levels up", under(pair(leafOf(14, "f=1"), "g", branchOf(15, leafOf(16, "g=1"), "p", leafOf(17, "p=1")))), 15},
		{"a leaf without pairs", under(leafOf(12)), 12},
		{"a leaf without pairs as the root", leafOf(12), 12},
		{"a leaf without pairs on the left", branchOf(30, leafOf(12), "f", right()), 12},
		{"a leaf without pairs on the right", branchOf(30, left(), "f", leafOf(12)), 12},
		{"keys that fall", under(leafOf(12, "h=1", "g=2")), 12},
		{"a key without bytes", branchOf(30, leafOf(12, "=1"), "f", right()), 12},
		{"a key that is too long", under(leafOf(12, strings.Repeat("g", 65)+"=1")), 12},
		{"a value that is too long", under(leafOf(12, "g="+strings.Repeat("v", 129))), 12},
		{"a leaf above the room", under(full), 12},
		{"a root above the room", full, 12},
		{"a branch of one kid", under(pair(leafOf(14, "g=1"))), 12},
		{"separators without kids", under(pair("g")), 12},
		{"a separator too few", under(&twig{no: 12, kids: []*twig{leafOf(14, "g=1"), leafOf(15, "h=1")}}), 12},
		{"separators that fall", under(pair(leafOf(14, "g=1"), "i", leafOf(15, "i=1"), "h", leafOf(16, "j=1"))), 12},
		{"a branch with pairs", under(&twig{no: 12, pairs: []api.Pair{{Key: "g"}}, seps: []string{"h"}, kids: []*twig{leafOf(14, "g=1"), leafOf(15, "h=1")}}), 12},
	} {
		y := trialOf(t, small(), c.w)
		for _, seq := range []func(func(api.Pair, api.Errno) bool){climb.Up(y.x, "", ""), climb.Down(y.x, "", "")} {
			log := y.over(seq, 0)
			bad := told(api.Pair{}, api.ErrBad)
			if c.wrong == 0 && slices.Contains(log, bad) || c.wrong != 0 && !slices.Equal(log[max(len(log)-2, 0):], []string{got(c.wrong), bad}) {
				t.Errorf("%s: %v", c.what, log)
			}
		}
		if seen := y.all(r, c.w); c.wrong != 0 && seen[api.ErrBad] == 0 || c.wrong == 0 && seen[api.ErrBad] != 0 {
			t.Errorf("%s: %v", c.what, seen)
		}
	}
}

// TestOtherDigest: each node in turn is told with one thing in it turned.
func TestOtherDigest(t *testing.T) {
	r := rand.New(rand.NewSource(5))
	turnedIn := func(n api.Node, how int) api.Node {
		n = node.Copy(n)
		switch {
		case how == 0 && len(n.Kids) == 0:
			n.Pairs[0].Val += "x"
		case how == 0:
			n.Seps[0] += "\x00"
		case how == 1 && len(n.Kids) == 0:
			n.Pairs = append(n.Pairs, api.Pair{Key: n.Pairs[len(n.Pairs)-1].Key + "\x00"})
		case how == 1:
			n.Kids[1].Sum[0] ^= 1
		case len(n.Kids) == 0: // of the other kind
			n = api.Node{Seps: []string{"g"}, Kids: []api.Kid{{Page: 40}, {Page: 41}}}
		default:
			n = api.Node{Pairs: []api.Pair{{Key: "g", Val: "1"}}}
		}
		return n
	}
	for _, w := range []*twig{deep(), gaunt()} {
		for _, twig := range twigs(w) {
			for how := range 3 {
				s, root := laid(small(), w)
				s.nodes[twig.no] = roomy(turnedIn(s.nodes[twig.no], how))
				y := newTrial(t, small(), s, root)
				if seen := y.all(r, w); seen[api.ErrBad] == 0 {
					t.Errorf("%d: %v", twig.no, seen)
				}
			}
		}
		s, root := laid(small(), w)
		root.Sum[1] ^= 0x80
		y := newTrial(t, small(), s, root)
		if seen := y.all(r, w); seen[api.ErrBad] == 0 {
			t.Errorf("another root digest: %v", seen)
		}
	}
}

// TestErrorsOfTheSource: handed on as they are, whatever number they have, at each node of the way.
func TestErrorsOfTheSource(t *testing.T) {
	r := rand.New(rand.NewSource(6))
	for _, w := range []*twig{leafOf(4, "m=1"), deep(), gaunt()} {
		for _, twig := range twigs(w) {
			for _, due := range []api.Errno{api.ErrNil, api.ErrArg, api.ErrState, api.ErrIO, api.ErrOff, api.ErrBad, -1, 1 << 50} {
				s, root := laid(small(), w)
				s.errs[twig.no] = due
				y := newTrial(t, small(), s, root)
				if seen := y.all(r, w); seen[due] == 0 {
					t.Errorf("%v at %d: %v", due, twig.no, seen)
				}
			}
			s, root := laid(small(), w)
			delete(s.nodes, twig.no)
			y := newTrial(t, small(), s, root)
			if seen := y.all(r, w); seen[api.ErrNone] == 0 {
				t.Errorf("nothing at %d: %v", twig.no, seen)
			}
		}
	}
}

// half is a source that tells a node beside its error.
type half struct{ leaf api.Node }

func (h half) Node(uint32) (api.Node, api.Errno) { return h.leaf, api.ErrIO }

func TestNothingBesideAnError(t *testing.T) {
	leaf := api.Node{Pairs: []api.Pair{{Key: "a", Val: "1"}}}
	sum, _ := node.Sum(small(), leaf)
	x := tree(t, small(), half{leaf}, api.Root{Page: 4, Sum: sum, Count: 1})
	for _, seq := range []func(func(api.Pair, api.Errno) bool){climb.Up(x, "", ""), climb.Down(x, "", "")} {
		if l := listed(seq); !slices.Equal(l, []string{"error 6"}) {
			t.Errorf("told %v", l)
		}
	}
	if l, e := climb.List(x, "", "", 1); len(l) != 0 || e != api.ErrIO {
		t.Errorf("List: %v %v", l, e)
	}
	if n, e := climb.Count(x, "", ""); n != 0 || e != api.ErrIO {
		t.Errorf("Count: %d %v", n, e)
	}
	c, _ := climb.New(x)
	for _, e := range []api.Errno{c.Seek("a"), c.First(), c.Last()} {
		if e != api.ErrIO {
			t.Error(e)
		}
		stands(t, "behind an error", c, "")
	}
}

// TestErrorAheadOrBehind: what List and Count tell of an error behind some pairs, which are not told beside it.
func TestErrorAheadOrBehind(t *testing.T) {
	x, s := treeOf(t, small(), deep())
	s.errs[13] = api.ErrOff
	for _, c := range []struct {
		lo, hi string
		limit  int
		many   int
		e      api.Errno
	}{
		{"", "", 0, 0, api.ErrOff}, {"", "", 1, 1, api.OK}, {"", "", 3, 3, api.OK}, {"", "", 4, 0, api.ErrOff},
		{"", "j", 0, 3, api.OK}, {"", "j\x00", 0, 0, api.ErrOff}, {"", "j\x00", 3, 3, api.OK},
		{"p", "", 0, 3, api.OK}, {"o\xff", "", 0, 0, api.ErrOff}, {"o\xff", "", 1, 0, api.ErrOff}, {"j", "j", 0, 0, api.OK},
	} {
		if l, e := climb.List(x, c.lo, c.hi, c.limit); len(l) != c.many || e != c.e {
			t.Errorf("List(%q, %q, %d): %v %v", c.lo, c.hi, c.limit, l, e)
		}
	}
	if n, e := climb.Count(x, "", "j"); n != 3 || e != api.OK {
		t.Errorf("Count: %d %v", n, e)
	}
	if n, e := climb.Count(x, "", ""); n != 0 || e != api.ErrOff {
		t.Errorf("Count: %d %v", n, e)
	}
	if l := listed(climb.Up(x, "", "")); !slices.Equal(l, []string{"b=1", "d=2", "h=3", "error 7"}) {
		t.Errorf("Up: %v", l)
	}
	if l := listed(climb.Down(x, "", "")); !slices.Equal(l, []string{"x=7", "v=6", "r=5", "error 7"}) {
		t.Errorf("Down: %v", l)
	}
	// Of two errors the first one that is met counts.
	s.errs[22] = api.ErrIO
	if l := listed(climb.Up(x, "", "")); !slices.Equal(l, []string{"b=1", "d=2", "h=3", "error 7"}) {
		t.Errorf("Up: %v", l)
	}
	if l := listed(climb.Down(x, "", "")); !slices.Equal(l, []string{"error 6"}) {
		t.Errorf("Down: %v", l)
	}
}

// TestCursorBehindAnError: each call that meets one leaves the cursor at none, and goes well when the source does again.
func TestCursorBehindAnError(t *testing.T) {
	for _, c := range []struct {
		from, call, key string
		wrong           uint32
		want            string // where it goes without the error
		got             []uint32
	}{
		{"h", "Seek", "b", 30, "b=1", []uint32{30}},
		{"h", "Seek", "b", 10, "b=1", []uint32{30, 10}},
		{"h", "Seek", "b", 11, "b=1", []uint32{30, 10, 11}},
		{"h", "Seek", "e", 12, "h=3", []uint32{30, 10, 11, 12}},
		{"h", "Seek", "m", 20, "r=5", []uint32{30, 10, 13, 20}},
		{"h", "Seek", "m", 21, "r=5", []uint32{30, 10, 13, 20, 21}},
		{"h", "First", "", 30, "b=1", []uint32{30}},
		{"h", "First", "", 10, "b=1", []uint32{30, 10}},
		{"h", "First", "", 11, "b=1", []uint32{30, 10, 11}},
		{"h", "Last", "", 20, "x=7", []uint32{30, 20}},
		{"h", "Last", "", 22, "x=7", []uint32{30, 20, 22}},
		{"h", "Next", "", 13, "l=4", []uint32{13}},
		{"l", "Next", "", 20, "r=5", []uint32{20}},
		{"l", "Next", "", 21, "r=5", []uint32{20, 21}},
		{"h", "Back", "", 11, "d=2", []uint32{11}},
		{"r", "Back", "", 10, "l=4", []uint32{10}},
		{"r", "Back", "", 13, "l=4", []uint32{10, 13}},
	} {
		what := fmt.Sprint(c.call, " ", c.key, " from ", c.from, " without ", c.wrong)
		x, s := cursor(t)
		x.Seek(c.from)
		s.log = nil
		s.errs[c.wrong] = -7
		does(t, what, s, call(x, c.call, c.key), -7, c.got...)
		stands(t, what, x, "")
		does(t, what+": Next", s, x.Next(), api.ErrState)
		does(t, what+": Back", s, x.Back(), api.ErrState)
		stands(t, what, x, "")
		clear(s.errs)
		if e := x.Seek(c.from); e != api.OK {
			t.Errorf("%s: Seek again: %v", what, e)
		}
		stands(t, what, x, c.from+"="+map[string]string{"h": "3", "l": "4", "r": "5"}[c.from], x.Place()...)
		if e := call(x, c.call, c.key); e != api.OK {
			t.Errorf("%s: and again: %v", what, e)
		}
		stands(t, what, x, c.want, x.Place()...)
	}
	// Where the way does not lead through it, what is wrong is not met.
	x, s := cursor(t)
	x.Seek("h")
	s.errs[30], s.errs[10], s.errs[12] = api.ErrIO, api.ErrIO, api.ErrIO
	if e := x.Next(); e != api.OK {
		t.Errorf("Next: %v", e)
	}
	stands(t, "Next", x, "l=4", 0, 2, 0)
	if e := x.Next(); e != api.OK {
		t.Errorf("Next: %v", e)
	}
	stands(t, "Next", x, "r=5", 1, 0, 0)
	if e := x.Back(); e != api.ErrIO {
		t.Errorf("Back into a branch that is refused: %v", e)
	}
	stands(t, "Back", x, "")
}

// chain is a tree that goes down on one side, to a leaf whose way has so many numbers. The nodes of this way are those from 100 on.
func chain(levels int, left bool) *twig {
	w := leafOf(100+uint32(levels), "m=1")
	for i := levels - 1; i >= 0; i-- {
		// The separators close in on m from one level to the next.
		no, aside := 100+uint32(i), 200+uint32(i)
		if left {
			sep := fmt.Sprintf("y%02d", 60-i)
			w = branchOf(no, w, sep, leafOf(aside, sep+"=2"))
		} else {
			w = branchOf(no, leafOf(aside, fmt.Sprintf("b%02dx=2", i+9)), fmt.Sprintf("b%02d", i+10), w)
		}
	}
	return w
}

// TestDepth: a way of 32 numbers is the longest that leads to a node; the next node is not asked for.
func TestDepth(t *testing.T) {
	r := rand.New(rand.NewSource(7))
	for _, left := range []bool{false, true} {
		for levels, due := range map[int]api.Errno{31: api.OK, 32: api.OK, 33: api.ErrBad, 36: api.ErrBad} {
			w := chain(levels, left)
			y := trialOf(t, small(), w)
			c, _ := climb.New(y.x)
			name := "Last"
			if left {
				name = "First"
			}
			y.s.log = nil
			if e := call(c, name, ""); e != due || len(y.s.log) != min(levels+1, 33) {
				t.Errorf("%d levels: %v, and got %d", levels, e, len(y.s.log))
			}
			if due == api.OK {
				stands(t, name, c, "m=1", c.Place()...)
				if len(c.Place()) != levels+1 {
					t.Errorf("its place: %v", c.Place())
				}
			} else {
				stands(t, name, c, "")
			}
			y.all(r, w)
			if n, e := climb.Count(y.x, "", ""); e != due || due == api.OK && n != levels+1 {
				t.Errorf("%d levels: Count: %d %v", levels, n, e)
			}
		}
	}
	// The depth is held against the bound ahead of the source's error.
	s, root := laid(small(), chain(33, false))
	s.errs[133], s.errs[233] = api.ErrIO, api.ErrIO
	x := tree(t, small(), s, root)
	c, _ := climb.New(x)
	if e := c.Last(); e != api.ErrBad {
		t.Errorf("an error of the source below 33 levels: %v", e)
	}
	if l := listed(climb.Down(x, "", "")); !slices.Equal(l, []string{"error 8"}) {
		t.Errorf("an error of the source below 33 levels: %v", l)
	}
}

// TestBranchesInThemselves: a branch whose kids are itself, which a digest of one byte allows, ends at once, as its own separator lies at their bounds.
func TestBranchesInThemselves(t *testing.T) {
	f := api.Frame{Page: 1024, Width: 1}
	n := api.Node{Seps: []string{""}, Kids: []api.Kid{{Page: 7}, {Page: 7}}}
	for i := 0; ; i++ {
		n.Seps[0] = "m" + fmt.Sprint(i/256)
		n.Kids[0].Sum[0], n.Kids[1].Sum[0] = byte(i), byte(i)
		if sum, e := node.Sum(f, n); e == api.OK && sum == n.Kids[0].Sum {
			break
		}
	}
	s := newWell()
	s.nodes[7] = roomy(n)
	y := newTrial(t, f, s, api.Root{Page: 7, Sum: n.Kids[0].Sum, Count: 1})
	if seen := y.all(rand.New(rand.NewSource(8)), branchOf(7, leafOf(1), n.Seps[0], leafOf(1))); seen[api.ErrBad] == 0 {
		t.Errorf("%v", seen)
	}
}

// fickle is a source that tells, of any number, one of several nodes by chance, or an error.
type fickle struct {
	r     *rand.Rand
	nodes []api.Node
	asked int
}

func (s *fickle) Node(uint32) (api.Node, api.Errno) {
	s.asked++
	if s.r.Intn(40) == 0 {
		return api.Node{}, api.ErrIO
	}
	return s.nodes[s.r.Intn(len(s.nodes))], api.OK
}

// TestFickle: of a source that answers otherwise each time nothing is promised but that calls end; and what stands behind an error is at none.
func TestFickle(t *testing.T) {
	f := api.Frame{Page: 1024, Width: 1}
	r := rand.New(rand.NewSource(9))
	s, root := laid(f, deep())
	fickle := &fickle{r: r}
	for _, no := range order() {
		fickle.nodes = append(fickle.nodes, s.nodes[no])
	}
	x := tree(t, f, fickle, root)
	c, _ := climb.New(x)
	ended := map[api.Errno]int{}
	for range 4000 {
		name := []string{"Seek", "First", "Last", "Next", "Back", "Next", "Back"}[r.Intn(7)]
		e := call(c, name, textOf(r, 2))
		ended[e]++
		if _, is := c.Pair(); e != api.OK && (is || c.Place() != nil) {
			t.Errorf("%s: %v, and stands", name, e)
		}
		for _, e := range climb.Up(x, "", "") {
			ended[e]++
		}
		climb.Count(x, "d", "v")
	}
	if ended[api.OK] == 0 || ended[api.ErrBad] == 0 || ended[api.ErrIO] == 0 || ended[api.ErrState] == 0 {
		t.Errorf("%v", ended)
	}
}

// TestSpoiltTrees spoils trees by chance, and holds every call against the rule.
func TestSpoiltTrees(t *testing.T) {
	for i, f := range []api.Frame{{Page: 1024, Width: 1}, {Page: 1024, Width: 3}, {Page: 2048, Width: 32}} {
		t.Run(fmt.Sprint(f), func(t *testing.T) {
			t.Parallel()
			r := rand.New(rand.NewSource(int64(77 + i)))
			seen := map[api.Errno]int{}
			for range 40 {
				w, s, root := spoilt(r, f)
				for e := range newTrial(t, f, s, root).all(r, w) {
					seen[e]++
				}
			}
			for _, e := range []api.Errno{api.OK, api.ErrBad, api.ErrIO, api.ErrState} {
				if seen[e] == 0 {
					t.Errorf("no tree with %v: %v", e, seen)
				}
			}
		})
	}
}

// spoilt is a tree by chance in which something may be wrong: with digests of what is there, and without.
func spoilt(r *rand.Rand, f api.Frame) (*twig, *well, api.Root) {
	w := grown(r, f, somePairs(r, f, 1+r.Intn(60), r.Intn(2) == 0), counter(r))
	all := twigs(w)
	if r.Intn(2) > 0 {
		shift(r, all[r.Intn(len(all))])
	}
	s, root := laid(f, w)
	switch no := all[r.Intn(len(all))].no; r.Intn(3) {
	case 0:
		s.errs[no] = api.ErrIO
	case 1:
		s.nodes[no] = s.nodes[all[r.Intn(len(all))].no]
	}
	return w, s, root
}

// shift moves a key or a separator of a twig a little or far, its neighbours left as they are.
func shift(r *rand.Rand, w *twig) {
	to := textOf(r, 4)
	if len(w.seps) > 0 {
		w.seps = slices.Clone(w.seps)
		w.seps[r.Intn(len(w.seps))] = to
		return
	}
	w.pairs = slices.Clone(w.pairs)
	at := []int{0, len(w.pairs) - 1}[r.Intn(2)]
	w.pairs[at].Key = to
}
