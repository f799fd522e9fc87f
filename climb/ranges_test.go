package climb_test

import (
	"fmt"
	"math/rand"
	"slices"
	"strings"
	"testing"

	"heartwood/api"
	"heartwood/climb"
)

// TestRanges: of a tree of three levels, what is told of some ranges, and which nodes are got.
func TestRanges(t *testing.T) {
	x, s := treeOf(t, small(), deep())
	long := strings.Repeat("m", 5000)
	for _, c := range []struct {
		lo, hi string
		want   string
		got    []uint32
	}{
		{"", "", "bdhlrvx", order()},
		{"", "a", "", []uint32{30, 10, 11}},
		{"", "b", "", []uint32{30, 10, 11}},
		{"", "b\x00", "b", []uint32{30, 10, 11}},
		{"b", "d", "b", []uint32{30, 10, 11}},
		{"b\x00", "d\x00", "d", []uint32{30, 10, 11}},
		// A separator as the end: the kid behind it is not got. A text just above it: it is.
		{"", "f", "bd", []uint32{30, 10, 11}},
		{"", "f\x00", "bd", []uint32{30, 10, 11, 12}},
		{"", "p", "bdhl", []uint32{30, 10, 11, 12, 13}},
		{"", "p\x00", "bdhl", []uint32{30, 10, 11, 12, 13, 20, 21}},
		{"", "t", "bdhlr", []uint32{30, 10, 11, 12, 13, 20, 21}},
		// A separator as the beginning: the kid ahead of it is not got. A text just below it: it is.
		{"f", "", "hlrvx", []uint32{30, 10, 12, 13, 20, 21, 22}},
		{"e\xff", "", "hlrvx", order()},
		{"p", "", "rvx", []uint32{30, 20, 21, 22}},
		{"o\xff", "", "rvx", []uint32{30, 10, 13, 20, 21, 22}},
		{"t", "", "vx", []uint32{30, 20, 22}},
		{"t\x00", "", "vx", []uint32{30, 20, 22}},
		// Both at separators, of one branch and of two.
		{"f", "j", "h", []uint32{30, 10, 12}},
		{"f", "p", "hl", []uint32{30, 10, 12, 13}},
		{"j", "t", "lr", []uint32{30, 10, 13, 20, 21}},
		{"p", "t", "r", []uint32{30, 20, 21}},
		// From one leaf into another, over a branch and over the root.
		{"d", "i", "dh", []uint32{30, 10, 11, 12}},
		{"d", "w", "dhlrv", order()},
		{"l", "r\x00", "lr", []uint32{30, 10, 13, 20, 21}},
		// Where there are no pairs, but there might be.
		{"i", "j", "", []uint32{30, 10, 12}},
		{"i", "l", "", []uint32{30, 10, 12, 13}},
		{"m", "q", "", []uint32{30, 10, 13, 20, 21}},
		{"y", "", "", []uint32{30, 20, 22}},
		{"x\x00", "z", "", []uint32{30, 20, 22}},
		// Longer than a key may be.
		{long, "", "rvx", []uint32{30, 10, 13, 20, 21, 22}},
		{"", long, "bdhl", []uint32{30, 10, 11, 12, 13}},
		{long, long + "\x00", "", []uint32{30, 10, 13}},
		{long, "s", "r", []uint32{30, 10, 13, 20, 21}},
		// Empty: nothing is got.
		{"d", "d", "", nil},
		{"d\x00", "d", "", nil},
		{"x", "b", "", nil},
		{"z", "a", "", nil},
		{"\x00", "\x00", "", nil},
		{long, long, "", nil},
		// Just one key.
		{"d", "d\x00", "d", []uint32{30, 10, 11}},
		{"r", "r\x00", "r", []uint32{30, 20, 21}},
		{"c", "c\x00", "", []uint32{30, 10, 11}},
	} {
		s.log = nil
		up := keysOf(t, climb.Up(x, c.lo, c.hi))
		if up != c.want || !slices.Equal(s.log, gots(c.got...)) {
			t.Errorf("Up(%.9q, %.9q): %q, and got %v", c.lo, c.hi, up, s.log)
		}
		// From the right: each branch ahead of its kids, the last one first.
		s.log = nil
		down := keysOf(t, climb.Down(x, c.lo, c.hi))
		if down != turned(c.want) || !sameThings(s.log, gots(c.got...)) {
			t.Errorf("Down(%.9q, %.9q): %q, and got %v", c.lo, c.hi, down, s.log)
		}
		if n, e := climb.Count(x, c.lo, c.hi); n != len(c.want) || e != api.OK {
			t.Errorf("Count(%.9q, %.9q): %d %v", c.lo, c.hi, n, e)
		}
	}
	s.log = nil
	if keysOf(t, climb.Down(x, "", "")); !slices.Equal(s.log, gots(30, 20, 22, 21, 10, 13, 12, 11)) {
		t.Errorf("Down got %v", s.log)
	}
}

// keysOf are the keys that an iterator tells, each of one byte.
func keysOf(t *testing.T, seq func(func(api.Pair, api.Errno) bool)) string {
	t.Helper()
	keys := ""
	for p, e := range seq {
		if e != api.OK {
			t.Error(e)
		}
		keys += p.Key
	}
	return keys
}

// turned is a text from its end on.
func turned(s string) string {
	b := []byte(s)
	slices.Reverse(b)
	return string(b)
}

// sameThings tells whether two lists have the same things, in whatever order.
func sameThings(a, b []string) bool {
	return slices.Equal(slices.Sorted(slices.Values(a)), slices.Sorted(slices.Values(b)))
}

// TestAllRanges: all ranges between texts at, below and above each key and separator, of small trees, held against the rule and the plain list.
func TestAllRanges(t *testing.T) {
	for i, w := range []*twig{leafOf(4, "m=1"), leafOf(4, "b=1", "d=2", "f=3"), branchOf(5, leafOf(2, "b=1"), "c", leafOf(3, "d=", "e=2")), deep(), gaunt()} {
		t.Run(fmt.Sprint(i), func(t *testing.T) {
			t.Parallel()
			r := rand.New(rand.NewSource(int64(i)))
			y := trialOf(t, small(), w)
			pairs := pairsOf(w)
			for _, lo := range texts(w) {
				for _, hi := range texts(w) {
					y.span(r, lo, hi)
					onList(t, y, pairs, lo, hi)
				}
			}
		})
	}
}

// onList holds what a range has against the plain list of a tree's pairs.
func onList(t *testing.T, y *trial, pairs []api.Pair, lo, hi string) {
	t.Helper()
	var want []api.Pair
	for _, p := range pairs {
		if p.Key >= lo && (hi == "" || p.Key < hi) {
			want = append(want, p)
		}
	}
	if l := listed(climb.Up(y.x, lo, hi)); !slices.Equal(l, words(want)) {
		t.Fatalf("Up(%.70q, %.70q): %.70q, and not %.70q", lo, hi, l, want)
	}
	if l, e := climb.List(y.x, lo, hi, 0); !slices.Equal(l, want) || e != api.OK {
		t.Fatalf("List(%.70q, %.70q): %.70q %v, and not %.70q", lo, hi, l, e, want)
	}
	if n, e := climb.Count(y.x, lo, hi); n != len(want) || e != api.OK {
		t.Fatalf("Count(%.70q, %.70q): %d %v, and not %d", lo, hi, n, e, len(want))
	}
	slices.Reverse(want)
	if l := listed(climb.Down(y.x, lo, hi)); !slices.Equal(l, words(want)) {
		t.Fatalf("Down(%.70q, %.70q): %.70q, and not %.70q", lo, hi, l, want)
	}
}

// TestNodesInTheirTurn: what is got between what is told, and that nothing is got ahead of being asked.
func TestNodesInTheirTurn(t *testing.T) {
	x, s := treeOf(t, small(), deep())
	up, down := climb.Up(x, "", ""), climb.Down(x, "", "")
	if s.log != nil {
		t.Errorf("got %v ahead of going over it", s.log)
	}
	upLog := []string{"got 30", "got 10", "got 11", "b", "d", "got 12", "h", "got 13", "l", "got 20", "got 21", "r", "got 22", "v", "x"}
	downLog := []string{"got 30", "got 20", "got 22", "x", "v", "got 21", "r", "got 10", "got 13", "l", "got 12", "h", "got 11", "d", "b"}
	for range 2 {
		for p := range up {
			s.log = append(s.log, p.Key)
		}
		if !slices.Equal(s.log, upLog) {
			t.Errorf("Up: %v", s.log)
		}
		s.log = nil
		for p := range down {
			s.log = append(s.log, p.Key)
		}
		if !slices.Equal(s.log, downLog) {
			t.Errorf("Down: %v", s.log)
		}
		s.log = nil
	}
	// Left at the last pair of a leaf: the next leaf is not got.
	for at, key := range map[int]string{4: "d", 6: "h", 8: "l", 11: "r"} {
		s.log = nil
		for p := range up {
			if p.Key == key {
				break
			}
			s.log = append(s.log, p.Key)
		}
		if !slices.Equal(s.log, upLog[:at]) {
			t.Errorf("Up, left at %s: %v", key, s.log)
		}
	}
	for at, key := range map[int]string{4: "v", 6: "r", 9: "l", 11: "h", 13: "d"} {
		s.log = nil
		for p := range down {
			if p.Key == key {
				break
			}
			s.log = append(s.log, p.Key)
		}
		if !slices.Equal(s.log, downLog[:at]) {
			t.Errorf("Down, left at %s: %v", key, s.log)
		}
	}
}

// TestOneWithinTheOther: two goings over one tree, and of one iterator, each go their own way.
func TestOneWithinTheOther(t *testing.T) {
	x, _ := treeOf(t, small(), deep())
	up, down := climb.Up(x, "c", "w"), climb.Down(x, "", "")
	var l []string
	for p := range up {
		one := p.Key + ":"
		for q := range up {
			one += q.Key
		}
		for q := range down {
			if q.Key == p.Key {
				break
			}
			one += q.Key
		}
		l = append(l, one)
	}
	if want := []string{"d:dhlrvxvrlh", "h:dhlrvxvrl", "l:dhlrvxvr", "r:dhlrvxv", "v:dhlrvx"}; !slices.Equal(l, want) {
		t.Errorf("%v", l)
	}
}

// TestLimits: of a range with pairs in several leaves.
func TestLimits(t *testing.T) {
	x, s := treeOf(t, small(), deep())
	for _, c := range []struct {
		limit int
		want  string
		got   []uint32
	}{
		{0, "dhlrv", order()},
		{1, "d", []uint32{30, 10, 11}},
		{2, "dh", []uint32{30, 10, 11, 12}},
		{3, "dhl", []uint32{30, 10, 11, 12, 13}},
		{4, "dhlr", []uint32{30, 10, 11, 12, 13, 20, 21}},
		{5, "dhlrv", order()},
		{6, "dhlrv", order()},
		{1<<63 - 1, "dhlrv", order()},
	} {
		s.log = nil
		l, e := climb.List(x, "c", "w", c.limit)
		keys := ""
		for _, p := range l {
			keys += p.Key
		}
		if keys != c.want || e != api.OK || !slices.Equal(s.log, gots(c.got...)) {
			t.Errorf("List of %d: %q %v, and got %v", c.limit, keys, e, s.log)
		}
	}
	s.log = nil
	for _, limit := range []int{-1, -2, -1 << 63} {
		for _, r := range [][2]string{{"", ""}, {"c", "w"}, {"w", "c"}} {
			if l, e := climb.List(x, r[0], r[1], limit); len(l) != 0 || e != api.ErrArg {
				t.Errorf("List of %d: %v %v", limit, l, e)
			}
		}
	}
	if s.log != nil {
		t.Errorf("got %v for a limit below 0", s.log)
	}
}

// TestListIsNew: what List answers is memory of its own.
func TestListIsNew(t *testing.T) {
	x, s := treeOf(t, small(), deep())
	kept := s.kept()
	for _, limit := range []int{0, 1, 2, 3, 7} {
		l, _ := climb.List(x, "", "", limit)
		m, _ := climb.List(x, "", "", limit)
		scribble(l)
		if n, e := climb.List(x, "", "", limit); !slices.Equal(m, n) || e != api.OK || m[0] != pairOf("b=1") {
			t.Errorf("List of %d: %v, and then %v", limit, m, n)
		}
	}
	for p := range climb.Up(x, "", "") {
		p.Key, p.Val = "scribble", "scribble"
	}
	if !kept() {
		t.Error("what the source keeps was changed")
	}
}

// TestEmptyTree makes every call of it: no node is got, whatever its source would tell.
func TestEmptyTree(t *testing.T) {
	for _, f := range frames() {
		x, s := emptyTree(t, f)
		y := newTrial(t, f, s, x.Root())
		v := y.ride()
		for _, lo := range []string{"", "a", "\xff"} {
			for _, hi := range []string{"", "a", "b", strings.Repeat("z", 600)} {
				y.span(rand.New(rand.NewSource(1)), lo, hi)
				if l, e := climb.List(y.x, lo, hi, -1); len(l) != 0 || e != api.ErrArg {
					t.Errorf("List of -1: %v %v", l, e)
				}
			}
			for _, call := range []string{"Seek", "First", "Last"} {
				if e := v.do(call, lo); e != api.OK {
					t.Errorf("%s: %v", call, e)
				}
				stands(t, call, v.c, "")
				if v.do("Next", "") != api.ErrState || v.do("Back", "") != api.ErrState {
					t.Errorf("behind %s", call)
				}
			}
		}
		if n, e := climb.Count(y.x, "", ""); n != 0 || e != api.OK || s.log != nil {
			t.Errorf("Count: %d %v, and got %v", n, e, s.log)
		}
	}
}

// TestNoTree: nil, and such as trunk's New did not make.
func TestNoTree(t *testing.T) {
	for what, x := range noTrees(t) {
		if c, e := climb.New(x); c != nil || e != api.ErrNil {
			t.Errorf("%s: New: %v %v", what, c, e)
		}
		for _, r := range [][2]string{{"", ""}, {"a", "b"}, {"b", "a"}} {
			for p, e := range climb.Up(x, r[0], r[1]) {
				t.Errorf("%s: Up: %v %v", what, p, e)
			}
			for p, e := range climb.Down(x, r[0], r[1]) {
				t.Errorf("%s: Down: %v %v", what, p, e)
			}
			for _, limit := range []int{0, 1, -1, -1 << 63, 1<<63 - 1} {
				if l, e := climb.List(x, r[0], r[1], limit); len(l) != 0 || e != api.ErrNil {
					t.Errorf("%s: List: %v %v", what, l, e)
				}
			}
			if n, e := climb.Count(x, r[0], r[1]); n != 0 || e != api.ErrNil {
				t.Errorf("%s: Count: %d %v", what, n, e)
			}
		}
	}
}
