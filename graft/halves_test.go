package graft_test

import (
	"math/rand"
	"strings"
	"testing"

	"heartwood/api"
)

// all complains, if Merge, Borrow and Mend do not all answer one error, and holds what they answer against what is due.
func all(t *testing.T, what string, f api.Frame, h api.Halves, want api.Errno) {
	t.Helper()
	if x, y, z := mends(t, f, h); x != want || y != want || z != want {
		t.Fatalf("%s: %v, %v, %v, and not %v: %s", what, x, y, z, want, parts(f, h))
	}
}

// 8.7: which separators stand in order, told outright.
func TestHalvesInOrder(t *testing.T) {
	t.Parallel()
	for _, f := range frames() {
		long := strings.Repeat("c", mostKey(f)+1)
		leaves := api.Halves{Left: leaf("a", "", "b", "1"), Right: leaf("d", "2", "e", "")}
		branches := api.Halves{Left: branch(f, "a", "b"), Right: branch(f, "d", "e")}
		for sep, want := range map[string]api.Errno{"": api.ErrOrder, "a": api.ErrOrder, "b": api.ErrOrder, "b\x00": api.OK, "c": api.OK, long: api.ErrOrder, long[1:]: api.OK, "d": api.OK, "d\x00": api.ErrOrder, "e": api.ErrOrder, "\xff": api.ErrOrder, "\x00": api.ErrOrder} {
			leaves.Sep, branches.Sep = sep, sep
			all(t, "leaves", f, leaves, want)
			if sep == "d" { // a branch's separators are all unlike
				want = api.ErrOrder
			}
			all(t, "branches", f, branches, want)
		}
		behind := api.Halves{Left: leaf("d", "2"), Sep: "c", Right: leaf("a", "1")}
		all(t, "leaves the wrong way round", f, behind, api.ErrOrder)
		all(t, "leaves that overlap", f, api.Halves{Left: leaf("a", "", "e", ""), Sep: "c", Right: leaf("d", "")}, api.ErrOrder)
		all(t, "the same leaf twice", f, api.Halves{Left: leaf("a", ""), Sep: "a", Right: leaf("a", "")}, api.ErrOrder)
	}
}

// An empty leaf has no last key and no first one: nothing is asked of that side.
func TestHalvesWithTheEmptyLeaf(t *testing.T) {
	for _, f := range frames() {
		long := strings.Repeat("c", mostKey(f)+1)
		two := leaf("b", "1", "d", "2")
		for sep, want := range map[string][2]api.Errno{"": {api.ErrOrder, api.ErrOrder}, "\x00": {api.OK, api.ErrOrder}, "b": {api.OK, api.ErrOrder}, "c": {api.ErrOrder, api.ErrOrder}, "d": {api.ErrOrder, api.ErrOrder}, "e": {api.ErrOrder, api.OK}, long: {api.ErrOrder, api.ErrOrder}} {
			all(t, "an empty Left", f, api.Halves{Sep: sep, Right: two}, want[0])
			all(t, "an empty Right", f, api.Halves{Left: two, Sep: sep}, want[1])
		}
		for _, h := range []api.Halves{{Sep: "c"}, {Sep: "c", Left: leaf("b", "")}, {Sep: "c", Right: leaf("c", "")}} {
			if x, y, z := mends(t, f, h); x != api.OK || y != api.ErrNoCut || z != api.OK {
				t.Errorf("%v: %v, %v, %v: %s", f, x, y, z, parts(f, h))
			}
		}
		all(t, "both empty, and no separator", f, api.Halves{}, api.ErrOrder)
	}
}

// Nodes that are not right, or not of one kind, are refused ahead of what is wrong with their order; a frame that may not be is told ahead of all.
func TestHalvesThatAreRefused(t *testing.T) {
	t.Parallel()
	for _, f := range frames() {
		l, b := leaf("n", "1"), branch(f, "n", "o")
		for _, sep := range []string{"", "m", "n", "zz"} {
			all(t, "a leaf and a branch", f, api.Halves{Left: l, Sep: sep, Right: b}, api.ErrShape)
			all(t, "a branch and a leaf", f, api.Halves{Left: b, Sep: sep, Right: l}, api.ErrShape)
			all(t, "an empty leaf and a branch", f, api.Halves{Sep: sep, Right: b}, api.ErrShape)
			all(t, "a branch and an empty leaf", f, api.Halves{Left: b, Sep: sep}, api.ErrShape)
			for what, n := range wrong(f) {
				for _, other := range []api.Node{l, b, {}, n} {
					all(t, what+" on the left", f, api.Halves{Left: n, Sep: sep, Right: other}, api.ErrShape)
					all(t, what+" on the right", f, api.Halves{Left: other, Sep: sep, Right: n}, api.ErrShape)
				}
			}
		}
	}
	f := few()[0]
	for _, off := range odd() {
		for _, n := range []api.Node{{}, leaf("a", "1"), branch(f, "a"), leafOf(9000), {Seps: []string{"m"}}} {
			for _, m := range []api.Node{{}, leaf("x", "1"), branch(f, "x"), {Seps: []string{"m"}}} {
				all(t, "a frame that may not be", off, api.Halves{Left: n, Sep: "m", Right: m}, api.ErrArg)
				all(t, "a frame that may not be", off, api.Halves{Left: n, Right: m}, api.ErrArg)
			}
		}
	}
}

// heavy answers the halves of a leaf, or of a branch, of just that size, cut anywhere.
func heavy(f api.Frame, size int, leaf bool, at func(n int) int) api.Halves {
	if leaf {
		n := leafOf(size)
		return cutAt(n, at(len(n.Pairs)))
	}
	n := branchOf(f, size)
	return cutAt(n, at(len(n.Kids)))
}

// 8.7: at just the room two are made one; with one byte more they are not, and are cut anew.
func TestHalvesAtTheRoom(t *testing.T) {
	t.Parallel()
	for _, f := range frames() {
		for _, isLeaf := range []bool{true, false} {
			for _, at := range []func(n int) int{func(int) int { return 2 }, func(n int) int { return n / 2 }, func(n int) int { return n - 2 }} {
				for by := -1; by <= 0; by++ {
					h := heavy(f, room(f)+by, isLeaf, at)
					all(t, "within the room", f, h, api.OK)
				}
				for _, size := range []int{room(f) + 1, room(f) + 2*least(f)} {
					h := heavy(f, size, isLeaf, at)
					if x, y, z := mends(t, f, h); x != api.ErrFull || y != api.OK || z != api.OK {
						t.Fatalf("%v: a size of %d: %v, %v, %v", f, size, x, y, z)
					}
					h.Sep = "\x00"
					all(t, "no order is told ahead of no room", f, h, api.ErrOrder)
				}
			}
		}
	}
}

// Both nodes may be full themselves.
func TestHalvesThatAreFull(t *testing.T) {
	for _, f := range few() {
		for _, isLeaf := range []bool{true, false} {
			h := heavy(f, 3*room(f), isLeaf, func(n int) int { return n / 2 })
			if x, y, z := mends(t, f, h); x != api.ErrFull || y != api.OK || z != api.OK {
				t.Error(f, x, y, z)
			}
		}
	}
}

func TestHalvesByChance(t *testing.T) {
	t.Parallel()
	by := rand.New(rand.NewSource(87))
	told := map[[3]api.Errno]int{}
	for range 8000 {
		f := anyFrame(by)
		h := api.Halves{Left: some(by, f), Sep: someKey(by, f), Right: some(by, f)}
		if n := some(by, f); by.Intn(3) > 0 && len(dueCuts(f, n)) > 0 {
			h = cutAt(n, dueCuts(f, n)[by.Intn(len(dueCuts(f, n)))].at)
			keys := append(keysOf(h.Left), keysOf(h.Right)...)
			switch by.Intn(4) {
			case 0:
				h.Sep = keys[by.Intn(len(keys))]
			case 1:
				h.Sep = keysOf(h.Left)[len(keysOf(h.Left))-1] + strings.Repeat("\x00", by.Intn(3))
			}
		}
		x, y, z := mends(t, f, h)
		told[[3]api.Errno{x, y, z}]++
	}
	for _, x := range [][3]api.Errno{{api.OK, api.OK, api.OK}, {api.ErrFull, api.OK, api.OK}, {api.ErrShape, api.ErrShape, api.ErrShape}, {api.ErrOrder, api.ErrOrder, api.ErrOrder}} {
		if told[x] < 300 {
			t.Error("too few:", x, told)
		}
	}
}
