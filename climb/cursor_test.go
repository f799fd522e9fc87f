package climb_test

import (
	"fmt"
	"math/rand"
	"slices"
	"strings"
	"testing"

	"heartwood/api"
	"heartwood/climb"
)

// walkOf is where a cursor is to stand in deep, pair by pair.
func walkOf() []struct {
	pair  string
	place []int
} {
	return []struct {
		pair  string
		place []int
	}{{"b=1", []int{0, 0, 0}}, {"d=2", []int{0, 0, 1}}, {"h=3", []int{0, 1, 0}}, {"l=4", []int{0, 2, 0}}, {"r=5", []int{1, 0, 0}}, {"v=6", []int{1, 1, 0}}, {"x=7", []int{1, 1, 1}}}
}

// cursor makes one over deep.
func cursor(t *testing.T) (*climb.Cursor, *well) {
	t.Helper()
	x, s := treeOf(t, small(), deep())
	c, e := climb.New(x)
	if c == nil || e != api.OK || s.log != nil {
		t.Fatalf("New: %v, and got %v", e, s.log)
	}
	return c, s
}

// does complains, if a call was not answered so, or got other nodes.
func does(t *testing.T, what string, s *well, e, due api.Errno, got ...uint32) {
	t.Helper()
	if e != due || !slices.Equal(s.log, gots(got...)) {
		t.Errorf("%s: %v, and got %v", what, e, s.log)
	}
	s.log = nil
}

// TestNextAndBack: over all pairs, over the ends of leaves, over the root, and past the ends.
func TestNextAndBack(t *testing.T) {
	c, s := cursor(t)
	gotNext := [][]uint32{nil, nil, {12}, {13}, {20, 21}, {22}, nil}
	gotBack := [][]uint32{nil, {11}, {12}, {10, 13}, {21}, nil, nil}
	all := walkOf()
	for range 2 {
		does(t, "First", s, c.First(), api.OK, 30, 10, 11)
		stands(t, "First", c, all[0].pair, all[0].place...)
		for i := 1; i < len(all); i++ {
			does(t, "Next to "+all[i].pair, s, c.Next(), api.OK, gotNext[i]...)
			stands(t, "Next", c, all[i].pair, all[i].place...)
		}
		does(t, "Next past the last", s, c.Next(), api.OK)
		stands(t, "past the last", c, "")
		does(t, "Next behind that", s, c.Next(), api.ErrState)
		does(t, "Back behind that", s, c.Back(), api.ErrState)
		stands(t, "behind that", c, "")
		does(t, "Last", s, c.Last(), api.OK, 30, 20, 22)
		stands(t, "Last", c, all[6].pair, all[6].place...)
		for i := len(all) - 2; i >= 0; i-- {
			does(t, "Back to "+all[i].pair, s, c.Back(), api.OK, gotBack[i]...)
			stands(t, "Back", c, all[i].pair, all[i].place...)
		}
		does(t, "Back past the first", s, c.Back(), api.OK)
		stands(t, "past the first", c, "")
		does(t, "Back behind that", s, c.Back(), api.ErrState)
		does(t, "Next behind that", s, c.Next(), api.ErrState)
	}
}

// TestThereAndBack: one step on, and one the other way round, from each pair.
func TestThereAndBack(t *testing.T) {
	for i, at := range walkOf() {
		c, s := cursor(t)
		if e := c.Seek(pairOf(at.pair).Key); e != api.OK {
			t.Fatal(e)
		}
		s.log = nil
		if i < 6 {
			c.Next()
			stands(t, "Next from "+at.pair, c, walkOf()[i+1].pair, walkOf()[i+1].place...)
			c.Back()
			stands(t, "and Back", c, at.pair, at.place...)
		}
		if i > 0 {
			c.Back()
			stands(t, "Back from "+at.pair, c, walkOf()[i-1].pair, walkOf()[i-1].place...)
			c.Next()
			stands(t, "and Next", c, at.pair, at.place...)
		}
	}
	// The nodes on the way are kept, and no others: what was left is got again.
	c, s := cursor(t)
	does(t, "Seek l", s, c.Seek("l"), api.OK, 30, 10, 13)
	does(t, "Next", s, c.Next(), api.OK, 20, 21)
	does(t, "Back", s, c.Back(), api.OK, 10, 13)
	does(t, "Back", s, c.Back(), api.OK, 12)
	does(t, "Next", s, c.Next(), api.OK, 13)
}

func TestSeek(t *testing.T) {
	all := walkOf()
	long := strings.Repeat("m", 5000)
	for _, c := range []struct {
		key string
		at  int // in all; 7: at none
		got []uint32
	}{
		{"", 0, []uint32{30, 10, 11}},
		{"a", 0, []uint32{30, 10, 11}},
		{"b", 0, []uint32{30, 10, 11}},
		{"b\x00", 1, []uint32{30, 10, 11}},
		{"d", 1, []uint32{30, 10, 11}},
		// The leaf of the key has no such pair: the next one of its branch.
		{"d\x00", 2, []uint32{30, 10, 11, 12}},
		{"e\xff", 2, []uint32{30, 10, 11, 12}},
		{"f", 2, []uint32{30, 10, 12}},
		{"i", 3, []uint32{30, 10, 12, 13}},
		{"j", 3, []uint32{30, 10, 13}},
		// Over the root.
		{"m", 4, []uint32{30, 10, 13, 20, 21}},
		{"o\xff", 4, []uint32{30, 10, 13, 20, 21}},
		{long, 4, []uint32{30, 10, 13, 20, 21}},
		{"p", 4, []uint32{30, 20, 21}},
		{"r", 4, []uint32{30, 20, 21}},
		{"s", 5, []uint32{30, 20, 21, 22}},
		{"t", 5, []uint32{30, 20, 22}},
		{"x", 6, []uint32{30, 20, 22}},
		// None at all.
		{"x\x00", 7, []uint32{30, 20, 22}},
		{strings.Repeat("\xff", 5000), 7, []uint32{30, 20, 22}},
	} {
		// From none, and from wherever it stood: it begins at the root.
		for _, from := range []string{"", "b", "l", "x"} {
			x, s := cursor(t)
			if from != "" {
				x.Seek(from)
			}
			s.log = nil
			does(t, fmt.Sprintf("Seek %.9q", c.key), s, x.Seek(c.key), api.OK, c.got...)
			if c.at == 7 {
				stands(t, "Seek", x, "")
				does(t, "Next from none", s, x.Next(), api.ErrState)
				does(t, "Back from none", s, x.Back(), api.ErrState)
				continue
			}
			stands(t, fmt.Sprintf("Seek %.9q", c.key), x, all[c.at].pair, all[c.at].place...)
		}
	}
	// Through a branch that has no next kid, up to one that has, and down to its first pair, which lies deeper.
	x, s := treeOf(t, small(), gaunt())
	c, _ := climb.New(x)
	does(t, "Seek h", s, c.Seek("h"), api.OK, 31, 11, 13, 15, 21, 22, 23)
	stands(t, "Seek h", c, "n=5", 1, 0, 0, 0)
	does(t, "Back", s, c.Back(), api.OK, 11, 13, 15)
	stands(t, "Back", c, "g=4", 0, 1, 1, 1)
	does(t, "Seek r", s, c.Seek("r"), api.OK, 31, 21, 25)
	stands(t, "Seek r", c, "s=8", 1, 1, 0)
	does(t, "Seek t", s, c.Seek("t"), api.OK, 31, 21, 25)
	stands(t, "Seek t", c, "")
}

// TestNoCursor makes every call of a nil Cursor, and of a zero one.
func TestNoCursor(t *testing.T) {
	for what, c := range map[string]*climb.Cursor{"nil": nil, "zero": {}} {
		for range 2 {
			for _, e := range []api.Errno{c.Seek(""), c.Seek("a"), c.First(), c.Last(), c.Next(), c.Back()} {
				if e != api.ErrNil {
					t.Errorf("%s: %v", what, e)
				}
			}
			stands(t, what, c, "")
		}
	}
	// What New answers beside an error.
	c, e := climb.New(nil)
	if c != nil || e != api.ErrNil || c.First() != api.ErrNil {
		t.Errorf("New of no tree: %v %v", c, e)
	}
}

// TestAtNone: a cursor that stands at none, however it came to it, at every call.
func TestAtNone(t *testing.T) {
	for what, to := range map[string]func(c *climb.Cursor, s *well){
		"new":            func(*climb.Cursor, *well) {},
		"past the last":  func(c *climb.Cursor, _ *well) { c.Last(); c.Next() },
		"past the first": func(c *climb.Cursor, _ *well) { c.First(); c.Back() },
		"sought behind":  func(c *climb.Cursor, _ *well) { c.First(); c.Seek("z") },
		"an error":       func(c *climb.Cursor, s *well) { c.First(); s.errs[30] = api.ErrIO; c.Last(); clear(s.errs) },
	} {
		for name, due := range map[string]struct {
			e    api.Errno
			want string
			at   []int
		}{"Next": {api.ErrState, "", nil}, "Back": {api.ErrState, "", nil}, "First": {api.OK, "b=1", []int{0, 0, 0}}, "Last": {api.OK, "x=7", []int{1, 1, 1}}, "Seek": {api.OK, "h=3", []int{0, 1, 0}}} {
			c, s := cursor(t)
			to(c, s)
			s.log = nil
			stands(t, what, c, "")
			if s.log != nil {
				t.Errorf("Pair and Place got %v", s.log)
			}
			if e := call(c, name, "f"); e != due.e {
				t.Errorf("%s, %s: %v", what, name, e)
			}
			stands(t, what+", "+name, c, due.want, due.at...)
		}
	}
}

// TestCursorsApart: two cursors over one tree, each at its own pair.
func TestCursorsApart(t *testing.T) {
	x, _ := treeOf(t, small(), deep())
	a, _ := climb.New(x)
	b, _ := climb.New(x)
	a.First()
	b.Last()
	a.Next()
	b.Back()
	stands(t, "the one", a, "d=2", 0, 0, 1)
	stands(t, "the other", b, "v=6", 1, 1, 0)
	b.Seek("z")
	stands(t, "the one", a, "d=2", 0, 0, 1)
	a.Next()
	stands(t, "the one", a, "h=3", 0, 1, 0)
	stands(t, "the other", b, "")
}

// TestPlaceIsNew: what Place answers is memory of its own.
func TestPlaceIsNew(t *testing.T) {
	c, _ := cursor(t)
	for _, at := range walkOf() {
		c.Seek(pairOf(at.pair).Key)
		l := c.Place()
		for i := range l[:cap(l)] {
			l[:cap(l)][i] = 9
		}
		stands(t, "with its place written over", c, at.pair, at.place...)
	}
	c.First()
	l := c.Place()
	c.Next()
	if !slices.Equal(l, []int{0, 0, 0}) {
		t.Errorf("Place, a step later: %v", l)
	}
}

// TestKeptNodes: the nodes on the way are the cursor's own, and are not got again.
func TestKeptNodes(t *testing.T) {
	c, s := cursor(t)
	c.Seek("b")
	s.log = nil
	// The source tells each alike when it is asked; the lists that it told before it may use anew.
	old := s.nodes
	s.nodes = map[uint32]api.Node{}
	for no, n := range old {
		s.nodes[no] = roomy(n)
		clear(n.Pairs)
		clear(n.Seps)
		clear(n.Kids)
	}
	for i, at := range walkOf() {
		if i > 0 {
			c.Next()
		}
		stands(t, "with the lists written over", c, at.pair, at.place...)
	}
	if !slices.Equal(s.log, gots(12, 13, 20, 21, 22)) {
		t.Errorf("got %v", s.log)
	}
}

// TestRides: cursors that go by chance, held against the rule, in small trees of all heights.
func TestRides(t *testing.T) {
	for i, w := range []*twig{leafOf(4, "m=1"), leafOf(4, "b=1", "d=", "f=3"), branchOf(5, leafOf(2, "b=1"), "c", leafOf(3, "d=2", "e=")), deep(), gaunt()} {
		r := rand.New(rand.NewSource(int64(i)))
		y := trialOf(t, small(), w)
		v := y.ride()
		for _, key := range texts(w) {
			v.do("Seek", key)
		}
		v.wander(r, texts(w), 3000)
		if y.seen[api.OK] == 0 || y.seen[api.ErrState] == 0 {
			t.Errorf("answered: %v", y.seen)
		}
	}
}
