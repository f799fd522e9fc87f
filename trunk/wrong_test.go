package trunk_test

import (
	"fmt"
	"math/rand"
	"slices"
	"strings"
	"testing"

	"heartwood/api"
	"heartwood/node"
	"heartwood/trunk"
)

// TestNotBelieved lays trees of which one node is wrong in one way. All digests are those of what is there, where nothing else is said: so it is this way alone for which it is refused.
func TestNotBelieved(t *testing.T) {
	many := func(n int) []string {
		var l []string
		for i := range n {
			l = append(l, string(rune('b'+i))+"="+strings.Repeat("v", 128))
		}
		return l
	}
	left := func() *twig { return leafOf(11, "b=1", "d=2") }
	right := func() *twig { return leafOf(13, "r=5") }
	// under has a node under the separators f and p of the root.
	under := func(w *twig) *twig { return branchOf(30, left(), "f", w, "p", right()) }
	pair := func(seps ...any) *twig { return branchOf(12, seps...) }
	for _, c := range []struct {
		what  string
		w     *twig
		wrong uint32 // the number of the node that is refused; 0: none is
	}{
		{"a leaf between its bounds", under(leafOf(12, "f=1", "o\xff\xff=2")), 0},
		{"a key just below the lower bound", under(leafOf(12, "e\xff\xff=1", "h=2")), 12},
		{"the upper bound as a key", under(leafOf(12, "h=1", "p=2")), 12},
		{"a key above the upper bound", under(leafOf(12, "h=1", "p\x00=2")), 12},
		{"a key far below", under(leafOf(12, "a=2")), 12},
		{"a key far above", under(leafOf(12, "z=2")), 12},
		{"a first leaf with a key at its upper bound", branchOf(30, leafOf(11, "b=1", "f=2"), "f", right()), 11},
		{"a last leaf with a key below its lower bound", branchOf(30, left(), "f", leafOf(13, "e=5")), 13},
		{"a first leaf with the least key", branchOf(30, leafOf(11, "\x00=1"), "f", right()), 0},
		{"a last leaf with a great key", branchOf(30, left(), "f", leafOf(13, strings.Repeat("\xff", 64)+"=5")), 0},
		{"a branch between its bounds", under(pair(leafOf(14, "f=1"), "f\x00", leafOf(15, "f\x00=1"), "o", leafOf(16, "o=1"))), 0},
		{"the lower bound as a separator", under(pair(leafOf(14, "f=1"), "f", leafOf(15, "g=1"))), 12},
		{"a separator below the lower bound", under(pair(leafOf(14, "f=1"), "e", leafOf(15, "g=1"))), 12},
		{"the upper bound as a separator", under(pair(leafOf(14, "f=1"), "p", leafOf(15, "p=1"))), 12},
		{"a separator above the upper bound", under(pair(leafOf(14, "f=1"), "q", leafOf(15, "r=1"))), 12},
		{"one of two separators beyond", under(pair(leafOf(14, "f=1"), "g", leafOf(15, "g=1"), "p\x00", leafOf(16, "z=1"))), 12},
		{"a branch on the left with the root's separator", branchOf(30, branchOf(12, left(), "f", leafOf(14, "g=1")), "f", right()), 12},
		{"a branch on the right with the root's separator", branchOf(30, left(), "f", branchOf(12, leafOf(14, "g=1"), "f", right())), 12},
		// The bounds of those above hold at the outer kids, too.
		{"a key below the branch's own lower bound", under(pair(leafOf(14, "e=1", "f=2"), "g", leafOf(15, "g=1"))), 14},
		{"a key at the branch's own upper bound", under(pair(leafOf(14, "f=2"), "g", leafOf(15, "g=1", "p=2"))), 15},
		{"a key at the branch's own lower bound", under(pair(leafOf(14, "f=2"), "g", leafOf(15, "g=1"))), 0},
		{"a separator at the lower bound two levels up", under(pair(branchOf(14, leafOf(16, "f=1"), "f", leafOf(17, "f=1")), "g", leafOf(15, "g=1"))), 14},
		{"a separator at the upper bound two levels up", under(pair(leafOf(14, "f=1"), "g", branchOf(15, leafOf(16, "g=1"), "p", leafOf(17, "p=1")))), 15},
		{"a leaf without pairs", under(leafOf(12)), 12},
		{"a leaf without pairs as the root", leafOf(12), 12},
		{"keys that fall", under(leafOf(12, "h=1", "g=2")), 12},
		{"a key without bytes", branchOf(30, leafOf(12, "=1"), "f", right()), 12},
		{"a key that is too long", under(leafOf(12, strings.Repeat("g", 65)+"=1")), 12},
		{"a value that is too long", under(leafOf(12, "g="+strings.Repeat("v", 129))), 12},
		{"a leaf of the room", under(sized(small(), 12, "g", small().Room())), 0},
		{"a leaf above the room", under(sized(small(), 12, "g", small().Room()+1)), 12},
		{"a root above the room", leafOf(12, many(8)...), 12},
		{"a branch of one kid", under(pair(leafOf(14, "g=1"))), 12},
		{"separators without kids", under(pair("g")), 12},
		{"a separator too few", under(&twig{no: 12, seps: nil, kids: []*twig{leafOf(14, "g=1"), leafOf(15, "h=1")}}), 12},
		{"separators that fall", under(pair(leafOf(14, "g=1"), "i", leafOf(15, "i=1"), "h", leafOf(16, "j=1"))), 12},
		{"a branch with pairs", under(&twig{no: 12, pairs: []api.Pair{{Key: "g"}}, seps: []string{"h"}, kids: []*twig{leafOf(14, "g=1"), leafOf(15, "h=1")}}), 12},
	} {
		s, root := laid(small(), c.w)
		root.Count = max(root.Count, 1)
		y := newTrial(t, small(), s, root)
		end := y.walk()
		if c.wrong == 0 && end != api.OK || c.wrong != 0 && (end != api.ErrBad || s.asked[len(s.asked)-1] != c.wrong) {
			t.Errorf("%s: %v, asked for %v", c.what, end, s.asked)
		}
		y.all(c.w)
	}
}

// TestOtherDigest: each node in turn is told with one thing in it turned.
func TestOtherDigest(t *testing.T) {
	turned := func(n api.Node, how int) api.Node {
		n = node.Copy(n)
		switch {
		case how == 0 && len(n.Kids) == 0:
			n.Pairs[0].Val += "x"
		case how == 0:
			n.Seps[0] += "\x00"
		case how == 1 && len(n.Kids) == 0:
			n.Pairs = append(n.Pairs, api.Pair{Key: n.Pairs[len(n.Pairs)-1].Key + "\x00"})
		case how == 1:
			n.Kids[1].Sum[0] ^= 1
		}
		return n
	}
	w := deep()
	for _, no := range order() {
		for how := range 2 {
			s, root := laid(small(), w)
			s.nodes[no] = roomy(turned(s.nodes[no], how))
			y := newTrial(t, small(), s, root)
			if e := y.walk(); e != api.ErrBad || s.asked[len(s.asked)-1] != no {
				t.Errorf("%d: %v, asked for %v", no, e, s.asked)
			}
			y.all(w)
		}
		// Where a kid lies is not in its parent's digest, and who lies there is: other numbers lead to other nodes, and these are refused.
		s, root := laid(small(), w)
		if n := s.nodes[no]; len(n.Kids) > 0 {
			n.Kids[0].Page, n.Kids[1].Page = n.Kids[1].Page, n.Kids[0].Page
			y := newTrial(t, small(), s, root)
			if e := y.walk(); e != api.ErrBad {
				t.Errorf("the kids of %d in each other's place: %v", no, e)
			}
			y.all(w)
		}
	}
	// The root's own digest.
	for at := range 2 {
		s, root := laid(small(), w)
		root.Sum[at] ^= 0x80
		y := newTrial(t, small(), s, root)
		if e := y.walk(); e != api.ErrBad || !slices.Equal(s.asked, []uint32{30}) {
			t.Errorf("another root digest: %v, asked for %v", e, s.asked)
		}
		y.all(w)
	}
}

// TestOtherKind: a node of one digest and the other kind is none, so the kinds are told apart by their digests; what a page says of the kind is Over's.
func TestOtherKind(t *testing.T) {
	w := deep()
	for _, no := range order() {
		s, root := laid(small(), w)
		n := api.Node{Pairs: []api.Pair{{Key: "g", Val: "1"}}}
		if len(s.nodes[no].Kids) == 0 {
			n = api.Node{Seps: []string{"g"}, Kids: []api.Kid{{Page: 40}, {Page: 41}}}
		}
		s.nodes[no] = roomy(n)
		y := newTrial(t, small(), s, root)
		if e := y.walk(); e != api.ErrBad || s.asked[len(s.asked)-1] != no {
			t.Errorf("%d: %v, asked for %v", no, e, s.asked)
		}
		y.all(w)
	}
}

// TestErrorsOfTheSource: handed on as they are, whatever number they have, ahead of what else is wrong.
func TestErrorsOfTheSource(t *testing.T) {
	w := deep()
	for i, no := range order() {
		for _, due := range []api.Errno{api.ErrNil, api.ErrArg, api.ErrIO, api.ErrOff, api.ErrWay, api.ErrTree, -1, 1 << 50} {
			s, root := laid(small(), w)
			s.errs[no] = due
			y := newTrial(t, small(), s, root)
			if e := y.walk(); e != due || len(s.asked) != i+1 {
				t.Errorf("%v at %d: %v, asked for %v", due, no, e, s.asked)
			}
			y.all(w)
		}
		s, root := laid(small(), w)
		delete(s.nodes, no)
		y := newTrial(t, small(), s, root)
		if e := y.walk(); e != api.ErrNone {
			t.Errorf("nothing at %d: %v", no, e)
		}
		y.all(w)
	}
}

// TestFirstErrorCounts: of two that are wrong, the one that is got first.
func TestFirstErrorCounts(t *testing.T) {
	w := deep()
	s, root := laid(small(), w)
	s.errs[10] = api.ErrIO
	s.nodes[11], s.nodes[21] = roomy(api.Node{}), roomy(api.Node{})
	s.errs[22] = api.ErrOff
	y := newTrial(t, small(), s, root)
	y.all(w)
	for _, c := range []struct {
		way []int
		e   api.Errno
	}{{[]int{0}, api.ErrIO}, {[]int{0, 0}, api.ErrIO}, {[]int{0, 9}, api.ErrIO}, {[]int{2, 0}, api.ErrWay}, {[]int{1, 0}, api.ErrBad}, {[]int{1, 0, 0}, api.ErrBad}, {[]int{1, 1}, api.ErrOff}, {[]int{1, 2}, api.ErrWay}} {
		if e := y.at(c.way); e != c.e {
			t.Errorf("At(%v): %v", c.way, e)
		}
	}
	// Floor and Ceil: what is wrong beside the key's own leaf counts only where it is needed.
	s, root = laid(small(), w)
	s.errs[13], s.errs[21] = api.ErrIO, api.ErrOff
	y = newTrial(t, small(), s, root)
	for _, c := range []struct {
		key         string
		floor, ceil api.Errno
	}{{"h", api.OK, api.OK}, {"i", api.OK, api.ErrIO}, {"k", api.ErrIO, api.ErrIO}, {"q", api.ErrOff, api.ErrOff}, {"t", api.ErrOff, api.OK}, {"w", api.OK, api.OK}} {
		if e, g := y.floor(c.key), y.ceil(c.key); e != c.floor || g != c.ceil {
			t.Errorf("%q: Floor %v, Ceil %v", c.key, e, g)
		}
	}
	// A branch beside it may be wrong, too.
	s, root = laid(small(), w)
	s.errs[10] = api.ErrIO
	y = newTrial(t, small(), s, root)
	if e := y.floor("q"); e != api.ErrIO {
		t.Errorf("Floor into a branch that is refused: %v", e)
	}
	s, root = laid(small(), w)
	s.nodes[20] = roomy(api.Node{})
	y = newTrial(t, small(), s, root)
	if e := y.ceil("m"); e != api.ErrBad {
		t.Errorf("Ceil into a branch that is not believed: %v", e)
	}
}

// chain is a tree that goes down on one side, to a leaf whose way has so many numbers. The nodes of this way are those from 100 on.
func chain(levels int, left bool) *twig {
	w := leafOf(100+uint32(levels), "m=1")
	for i := levels - 1; i >= 0; i-- {
		// The separators close in on m from one level to the next.
		no, aside := 100+uint32(i), 200+uint32(i)
		if left {
			sep := fmt.Sprintf("y%02d", 60-i)
			w = branchOf(no, w, sep, leafOf(aside, sep+"=2"))
		} else {
			w = branchOf(no, leafOf(aside, fmt.Sprintf("b%02dx=2", i+9)), fmt.Sprintf("b%02d", i+10), w)
		}
	}
	return w
}

// TestDepth: a way of 32 numbers is the longest that leads to a node; the next node is not asked for.
func TestDepth(t *testing.T) {
	t.Parallel()
	for _, left := range []bool{false, true} {
		step := 1
		if left {
			step = 0
		}
		way := slices.Repeat([]int{step}, 40)
		for _, levels := range []int{31, 32} {
			w := chain(levels, left)
			s, root := laid(small(), w)
			y := newTrial(t, small(), s, root)
			if y.at(way[:levels]) != api.OK || y.at(way[:levels+1]) != api.ErrWay || y.walk() != api.OK || y.get("m") != api.OK {
				t.Errorf("a leaf of a way of %d numbers", levels)
			}
			y.whole()
		}
		for _, levels := range []int{33, 34, 38} {
			w := chain(levels, left)
			s, root := laid(small(), w)
			y := newTrial(t, small(), s, root)
			if e := y.at(way[:32]); e != api.OK {
				t.Errorf("a way of 32 numbers: %v", e)
			}
			for _, long := range []int{33, 34, 40} {
				if e := y.at(way[:long]); e != api.ErrBad || len(s.asked) != 33 {
					t.Errorf("a way of %d numbers: %v, asked for %v", long, e, s.asked)
				}
			}
			// Where the next number is no kid, that is told: no node is got then.
			if e := y.at(append(slices.Clone(way[:32]), 2)); e != api.ErrWay {
				t.Errorf("a way of 33 numbers that leads nowhere: %v", e)
			}
			if y.get("m") != api.ErrBad || y.floor("m") != api.ErrBad || y.ceil("m") != api.ErrBad || y.path("m") != api.ErrBad {
				t.Errorf("a key below 33 levels")
			}
			if y.walk() != api.ErrBad || y.pages() != api.ErrBad || y.shape() != api.ErrBad {
				t.Errorf("a walk below 33 levels")
			}
			for _, key := range questions(w) {
				y.key(key)
			}
		}
	}
	// The depth is held against the bound ahead of the source's error.
	s, root := laid(small(), chain(33, false))
	s.errs[133], s.errs[233] = api.ErrIO, api.ErrIO
	y := newTrial(t, small(), s, root)
	if e := y.get("m"); e != api.ErrBad {
		t.Errorf("an error of the source below 33 levels: %v", e)
	}
}

// loop is a branch whose kids are itself: its digest, cut to one byte, stands in it.
func loop(t *testing.T, f api.Frame, sep string) api.Node {
	t.Helper()
	for i := range 100000 {
		n := api.Node{Seps: []string{sep + fmt.Sprintf("%05d", i)}, Kids: []api.Kid{{Page: 7}, {Page: 7}}}
		for b := range 256 {
			n.Kids[0].Sum[0], n.Kids[1].Sum[0] = byte(b), byte(b)
			if d, e := node.Sum(f, n); e == api.OK && d == n.Kids[0].Sum {
				return n
			}
		}
	}
	t.Fatal("no such branch")
	return api.Node{}
}

// TestBranchesInThemselves: they end at once, as their own separators lie at their bounds.
func TestBranchesInThemselves(t *testing.T) {
	f := api.Frame{Page: 1024, Width: 1}
	n := loop(t, f, "m")
	s := newWell()
	s.nodes[7] = roomy(n)
	y := newTrial(t, f, s, api.Root{Page: 7, Sum: n.Kids[0].Sum, Count: 1})
	for _, key := range []string{"", "a", "m", n.Seps[0], "z"} {
		y.key(key)
	}
	y.whole()
	for long := range 40 {
		for kid := range 2 {
			if e := y.at(slices.Repeat([]int{kid}, long)); e != api.OK && (e != api.ErrBad || len(s.asked) > 2) {
				t.Errorf("a way of %d numbers: %v, asked for %v", long, e, s.asked)
			}
		}
	}
}

// teller is a source that tells another node each time, whatever it is asked for.
type teller struct {
	nodes []api.Node
	asked int
}

func (s *teller) Node(uint32) (api.Node, api.Errno) {
	s.asked++
	return s.nodes[min(s.asked, len(s.nodes))-1], api.OK
}

// TestOneNumberOverAndOver: branches that all name one number, whose source tells the next one each time.
func TestOneNumberOverAndOver(t *testing.T) {
	for _, levels := range []int{5, 32, 33, 38} {
		s, root := laid(small(), chain(levels, true))
		var nodes []api.Node
		sum := api.Digest{}
		for i := levels; i >= 0; i-- {
			n := node.Copy(s.nodes[uint32(100+i)])
			if i < levels {
				n.Kids[0] = api.Kid{Page: 7, Sum: sum}
			}
			sum, _ = node.Sum(small(), n)
			nodes = append([]api.Node{n}, nodes...)
		}
		root.Page, root.Sum = 7, sum
		source := &teller{nodes: nodes}
		x := tree(t, small(), source, root)
		v, is, e := x.Get("m")
		if levels <= 32 && (v != "1" || !is || e != api.OK || source.asked != levels+1) {
			t.Errorf("%d levels: %q %v %v, asked %d times", levels, v, is, e, source.asked)
		}
		if levels > 32 && (v != "" || is || e != api.ErrBad || source.asked != 33) {
			t.Errorf("%d levels: %q %v %v, asked %d times", levels, v, is, e, source.asked)
		}
	}
}

// TestSpoiltTrees spoils trees by chance, and holds every call against the rule.
func TestSpoiltTrees(t *testing.T) {
	for i, f := range []api.Frame{{Page: 1024, Width: 1}, {Page: 1024, Width: 3}, {Page: 2048, Width: 32}} {
		t.Run(fmt.Sprint(f), func(t *testing.T) {
			t.Parallel()
			r := rand.New(rand.NewSource(int64(77 + i)))
			ends := map[api.Errno]int{}
			for range 60 {
				w, s, root := spoilt(r, f)
				y := newTrial(t, f, s, root)
				ends[y.walk()]++
				ends[y.shape()]++
				for _, key := range picked(r, questions(w)) {
					y.key(key)
				}
				for _, way := range picked(r, waysOf(w)) {
					y.at(way)
				}
			}
			for _, e := range []api.Errno{api.OK, api.ErrBad, api.ErrIO, api.ErrTree} {
				if ends[e] == 0 {
					t.Errorf("no tree ended in %v: %v", e, ends)
				}
			}
		})
	}
}

// spoilt is a tree by chance in which something may be wrong: with digests of what is there, and without.
func spoilt(r *rand.Rand, f api.Frame) (*twig, *well, api.Root) {
	w := grown(r, f, somePairs(r, f, 1+r.Intn(80), r.Intn(2) == 0), counter(r))
	var all []*twig
	nodesOf(w, func(_ []int, w *twig) { all = append(all, w) })
	if r.Intn(2) > 0 {
		shift(r, all[r.Intn(len(all))])
	}
	s, root := laid(f, w)
	switch no := all[r.Intn(len(all))].no; r.Intn(4) {
	case 0:
		s.errs[no] = api.ErrIO
	case 1:
		s.nodes[no] = s.nodes[all[r.Intn(len(all))].no]
	case 2:
		root.Count++
	}
	return w, s, root
}

// shift moves a key or a separator of a twig a little or far, its neighbours left as they are.
func shift(r *rand.Rand, w *twig) {
	to := textOf(r, 4)
	if len(w.seps) > 0 {
		w.seps = slices.Clone(w.seps)
		w.seps[r.Intn(len(w.seps))] = to
		return
	}
	w.pairs = slices.Clone(w.pairs)
	at := []int{0, len(w.pairs) - 1}[r.Intn(2)]
	w.pairs[at].Key = to
}

// TestAnotherFrame: a tree that is read in another frame than it was laid in is refused at its root.
func TestAnotherFrame(t *testing.T) {
	s, root := laid(api.Frame{Page: 1024, Width: 1}, deep())
	for _, f := range []api.Frame{{Page: 1024, Width: 2}, {Page: 2048, Width: 32}} {
		x, e := trunk.New(f, s, root)
		if e != api.OK {
			t.Fatal(e)
		}
		if v, is, e := x.Get("b"); v != "" || is || e != api.ErrBad {
			t.Errorf("Get in %v: %q %v %v", f, v, is, e)
		}
	}
	// Of a greater page size alone the digests are the same: it is the same tree.
	x := tree(t, api.Frame{Page: 8192, Width: 1}, s, root)
	if v, is, e := x.Get("b"); v != "1" || !is || e != api.OK {
		t.Errorf("Get in a larger page: %q %v %v", v, is, e)
	}
}
