package trunk_test

import (
	"math/rand"
	"slices"
	"strconv"
	"strings"
	"testing"

	"heartwood/api"
	"heartwood/node"
)

// deep is a tree of three levels with gaps at its separators: keys that lie under a kid that has none of them.
func deep() *twig {
	left := branchOf(10, leafOf(11, "b=1", "d=2"), "f", leafOf(12, "h=3"), "j", leafOf(13, "l=4"))
	right := branchOf(20, leafOf(21, "r=5"), "t", leafOf(22, "v=6", "x=7"))
	return branchOf(30, left, "p", right)
}

func TestAt(t *testing.T) {
	x, s := treeOf(t, small(), deep())
	for _, c := range []struct {
		way   []int
		no    uint32
		e     api.Errno
		asked []uint32
	}{
		{nil, 30, api.OK, []uint32{30}},
		{[]int{0}, 10, api.OK, []uint32{30, 10}},
		{[]int{1}, 20, api.OK, []uint32{30, 20}},
		{[]int{0, 2}, 13, api.OK, []uint32{30, 10, 13}},
		{[]int{1, 1}, 22, api.OK, []uint32{30, 20, 22}},
		{[]int{2}, 0, api.ErrWay, []uint32{30}},
		{[]int{-1}, 0, api.ErrWay, []uint32{30}},
		{[]int{-1 << 63}, 0, api.ErrWay, []uint32{30}},
		{[]int{1<<63 - 1}, 0, api.ErrWay, []uint32{30}},
		{[]int{2, 0}, 0, api.ErrWay, []uint32{30}},
		{[]int{0, 3}, 0, api.ErrWay, []uint32{30, 10}},
		{[]int{1, -1}, 0, api.ErrWay, []uint32{30, 20}},
		{[]int{1, 2, 0}, 0, api.ErrWay, []uint32{30, 20}},
		{[]int{0, 0, 0}, 0, api.ErrWay, []uint32{30, 10, 11}},
		{[]int{0, 0, 0, 0, 0}, 0, api.ErrWay, []uint32{30, 10, 11}},
	} {
		s.asked = nil
		n, e := x.At(c.way...)
		want := s.nodes[c.no]
		if !node.Same(n, want) || e != c.e || !slices.Equal(s.asked, c.asked) {
			t.Errorf("At(%v): %v %v, asked for %v", c.way, n, e, s.asked)
		}
	}
}

func TestPath(t *testing.T) {
	x, s := treeOf(t, small(), deep())
	// A separator's own text lies behind it.
	for key, way := range map[string][]int{"": {0, 0}, "a": {0, 0}, "ezz": {0, 0}, "f": {0, 1}, "f\x00": {0, 1}, "iz": {0, 1}, "j": {0, 2}, "o\xff": {0, 2}, "p": {1, 0}, "p\x00": {1, 0}, "s": {1, 0}, "t": {1, 1}, "zz": {1, 1}, strings.Repeat("k", 5000): {0, 2}} {
		s.asked = nil
		l, e := x.Path(key)
		if len(l) != 3 || e != api.OK || len(s.asked) != 3 {
			t.Fatalf("Path(%.9q): %v %v, asked for %v", key, l, e, s.asked)
		}
		for i, p := range l {
			if !slices.Equal(p.Way, way[:i]) || p.Page != s.asked[i] || !node.Same(p.Node, s.nodes[p.Page]) {
				t.Errorf("Path(%.9q): %v at %d", key, p, i)
			}
		}
	}
}

func TestFloorAndCeil(t *testing.T) {
	x, s := treeOf(t, small(), deep())
	none := api.Pair{}
	for _, c := range []struct {
		key         string
		floor, ceil api.Pair
		asked       [2]int // how many nodes each asks for
	}{
		{"", none, api.Pair{Key: "b", Val: "1"}, [2]int{3, 3}},
		{"a", none, api.Pair{Key: "b", Val: "1"}, [2]int{3, 3}},
		{"b", api.Pair{Key: "b", Val: "1"}, api.Pair{Key: "b", Val: "1"}, [2]int{3, 3}},
		{"c", api.Pair{Key: "b", Val: "1"}, api.Pair{Key: "d", Val: "2"}, [2]int{3, 3}},
		{"d", api.Pair{Key: "d", Val: "2"}, api.Pair{Key: "d", Val: "2"}, [2]int{3, 3}},
		// Within one branch: the kid behind, the kid ahead.
		{"e", api.Pair{Key: "d", Val: "2"}, api.Pair{Key: "h", Val: "3"}, [2]int{3, 4}},
		{"f", api.Pair{Key: "d", Val: "2"}, api.Pair{Key: "h", Val: "3"}, [2]int{4, 3}},
		{"i", api.Pair{Key: "h", Val: "3"}, api.Pair{Key: "l", Val: "4"}, [2]int{3, 4}},
		{"j", api.Pair{Key: "h", Val: "3"}, api.Pair{Key: "l", Val: "4"}, [2]int{4, 3}},
		// Over the root.
		{"m", api.Pair{Key: "l", Val: "4"}, api.Pair{Key: "r", Val: "5"}, [2]int{3, 5}},
		{"p", api.Pair{Key: "l", Val: "4"}, api.Pair{Key: "r", Val: "5"}, [2]int{5, 3}},
		{"q", api.Pair{Key: "l", Val: "4"}, api.Pair{Key: "r", Val: "5"}, [2]int{5, 3}},
		{"t", api.Pair{Key: "r", Val: "5"}, api.Pair{Key: "v", Val: "6"}, [2]int{4, 3}},
		{"x", api.Pair{Key: "x", Val: "7"}, api.Pair{Key: "x", Val: "7"}, [2]int{3, 3}},
		{"x\x00", api.Pair{Key: "x", Val: "7"}, none, [2]int{3, 3}},
		{strings.Repeat("\xff", 99), api.Pair{Key: "x", Val: "7"}, none, [2]int{3, 3}},
	} {
		s.asked = nil
		if p, is, e := x.Floor(c.key); p != c.floor || is != (c.floor != none) || e != api.OK || len(s.asked) != c.asked[0] {
			t.Errorf("Floor(%q): %v %v %v, asked for %v", c.key, p, is, e, s.asked)
		}
		s.asked = nil
		if p, is, e := x.Ceil(c.key); p != c.ceil || is != (c.ceil != none) || e != api.OK || len(s.asked) != c.asked[1] {
			t.Errorf("Ceil(%q): %v %v %v, asked for %v", c.key, p, is, e, s.asked)
		}
	}
}

// TestValueWithoutBytes: it is told from no pair by the bool alone.
func TestValueWithoutBytes(t *testing.T) {
	x, _ := treeOf(t, small(), leafOf(4, "a=", "c=1"))
	for key, want := range map[string]bool{"a": true, "b": false, "": false} {
		if v, is, e := x.Get(key); v != "" || is != want || e != api.OK {
			t.Errorf("Get(%q): %q %v %v", key, v, is, e)
		}
	}
	if p, is, e := x.Floor("b"); p != (api.Pair{Key: "a"}) || !is || e != api.OK {
		t.Errorf("Floor: %v %v %v", p, is, e)
	}
}

// onList holds Get, Floor and Ceil against the plain list of a tree's pairs.
func onList(t *testing.T, y *trial, pairs []api.Pair, key string) {
	t.Helper()
	below := slices.IndexFunc(pairs, func(p api.Pair) bool { return p.Key >= key })
	if below < 0 {
		below = len(pairs)
	}
	var floor, ceil, same api.Pair
	if below > 0 {
		floor = pairs[below-1]
	}
	if below < len(pairs) {
		ceil = pairs[below]
	}
	has := ceil.Key == key && below < len(pairs)
	if has {
		floor, same = ceil, ceil
	}
	if v, is, e := y.x.Get(key); v != same.Val || is != has || e != api.OK {
		t.Fatalf("Get(%q): %q %v %v", key, v, is, e)
	}
	if p, is, e := y.x.Floor(key); p != floor || is != (floor.Key != "") || e != api.OK {
		t.Fatalf("Floor(%q): %q %v %v", key, p, is, e)
	}
	if p, is, e := y.x.Ceil(key); p != ceil || is != (ceil.Key != "") || e != api.OK {
		t.Fatalf("Ceil(%q): %q %v %v", key, p, is, e)
	}
}

// TestTrees makes every call of trees by chance, of one level and of more, in all frames, and holds them against the rule and against the plain list.
func TestTrees(t *testing.T) {
	for i, f := range frames() {
		t.Run(strconv.Itoa(f.Page)+"/"+strconv.Itoa(f.Width), func(t *testing.T) {
			t.Parallel()
			r := rand.New(rand.NewSource(int64(10 + i)))
			heights := map[int]int{}
			for _, many := range []int{1, 2, 3, 8, 20, 60, 200} {
				pairs := somePairs(r, f, many, many > 20)
				w := grown(r, f, pairs, counter(r))
				s, root := laid(f, w)
				y := newTrial(t, f, s, root)
				y.whole()
				shape, e := y.x.Shape()
				if e != api.OK || shape.Count != uint64(many) {
					t.Fatalf("%d pairs: %v %v", many, shape, e)
				}
				heights[shape.Height]++
				keys, ways := questions(w), waysOf(w)
				if many > 20 {
					keys, ways = picked(r, keys), picked(r, ways)
				}
				for _, key := range keys {
					y.key(key)
					onList(t, y, pairs, key)
				}
				for _, p := range pairs {
					onList(t, y, pairs, p.Key)
				}
				for _, way := range ways {
					y.at(way)
				}
			}
			if heights[1] == 0 || heights[2] == 0 || heights[3] == 0 {
				t.Errorf("heights: %v", heights)
			}
		})
	}
}

// picked is some of a list's things.
func picked[T any](r *rand.Rand, l []T) []T {
	l = slices.Clone(l)
	r.Shuffle(len(l), func(i, j int) { l[i], l[j] = l[j], l[i] })
	return l[:min(len(l), 100)]
}
