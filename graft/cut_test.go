package graft_test

import (
	"math/rand"
	"slices"
	"strings"
	"testing"

	"heartwood/api"
	"heartwood/graft"
	"heartwood/node"
)

// 8.3
func TestBetween(t *testing.T) {
	all := []string{"", "\x00", "\x00\x00", "\x00\x01", "\x01", "A", "a", "a\x00", "a\x00b", "aa", "ab", "abc", "abd", "b", "\x7f", "\x7f\xff", "\x80", "\xc3\xa9", "\xff", "\xff\x00", "\xff\xff", "\xff\xff\xff"}
	for i, a := range all {
		for j, b := range all {
			want := api.ErrOrder
			if i < j {
				want = api.OK
			}
			if e := betweens(t, a, b); e != want {
				t.Errorf("Between(%q, %q): %v", a, b, e)
			}
		}
	}
	long := strings.Repeat("x", 100000) // of any length: no frame is asked
	if s, e := graft.Between(long, long+"yz"); s != long+"y" || e != api.OK {
		t.Error(len(s), e)
	}
	if s, e := graft.Between(long+"y", long); s != "" || e != api.ErrOrder {
		t.Error(len(s), e)
	}
}

// 8.5 in all frames: at the room and at the least, and one byte to each side.
func TestFullAndThin(t *testing.T) {
	t.Parallel()
	for _, f := range frames() {
		for by := -1; by <= 1; by++ {
			for what, made := range map[string]func(size int) api.Node{"leaf": leafOf, "branch": func(size int) api.Node { return branchOf(f, size) }} {
				if full, thin := fullOrThin(t, f, made(room(f)+by)); full != (by > 0) || thin {
					t.Errorf("%v: a %s of the room and %d: %v, %v", f, what, by, full, thin)
				}
				if full, thin := fullOrThin(t, f, made(least(f)+by)); thin != (by < 0) || full {
					t.Errorf("%v: a %s of the least and %d: %v, %v", f, what, by, full, thin)
				}
			}
		}
		for _, n := range rights(f) {
			fullOrThin(t, f, n)
		}
		for what, n := range wrong(f) {
			if full, thin := fullOrThin(t, f, n); full || thin {
				t.Errorf("%v: %s: %v, %v", f, what, full, thin)
			}
		}
		large := changed(leafOf(2*f.Page), func(n *api.Node) { n.Pairs[1].Key = "" })
		if full, thin := fullOrThin(t, f, large); full || thin {
			t.Errorf("%v: a large node that is not right: %v, %v", f, full, thin)
		}
	}
	for _, off := range odd() {
		for _, n := range []api.Node{{}, leaf("a", "b"), leafOf(20000), branch(few()[0], "m"), {Seps: []string{"m"}}} {
			if full, thin := fullOrThin(t, off, n); full || thin {
				t.Error(off, full, thin)
			}
		}
	}
}

// 8.5 in all frames.
func TestCuts(t *testing.T) {
	t.Parallel()
	for _, f := range frames() {
		for i, n := range rights(f) {
			if i < 9 || i > 17 && i < 23 || f.Width == 32 { // the large ones in some frames alone
				cuts(t, f, n)
				splits(t, f, n)
			}
		}
		for what, n := range wrong(f) {
			if x := cuts(t, f, n); x != 0 {
				t.Errorf("%v: %s has %d cuts", f, what, x)
			}
		}
	}
	for _, off := range odd() {
		for _, n := range []api.Node{{}, many(9), branch(few()[0], "m", "n", "o", "p"), {Seps: []string{"m"}}} {
			if x := cuts(t, off, n); x != 0 {
				t.Error(off, x)
			}
		}
	}
}

// The sizes that Cuts tells are layer 7's.
func TestCutsTellSizesOfNodes(t *testing.T) {
	for _, f := range few() {
		for _, n := range rights(f) {
			for i, sides := range graft.Cuts(f, n) {
				if h := cutAt(n, i); sides != [2]int{node.Size(f, h.Left), node.Size(f, h.Right)} {
					t.Fatalf("the cut %d: %v: %s", i, sides, brief(f, n))
				}
			}
		}
	}
}

// How many cuts there are, and ErrNoCut, told outright.
func TestHowManyCuts(t *testing.T) {
	t.Parallel()
	for _, f := range frames() {
		for n := range 300 {
			if n > 10 && (n < 120 || f.Width != 2) {
				continue
			}
			want, code := max(0, n-1), api.OK
			if n < 2 {
				code = api.ErrNoCut
			}
			if x := cuts(t, f, many(n)); x != want {
				t.Errorf("%v: a leaf of %d pairs has %d cuts", f, n, x)
			}
			if e := splits(t, f, many(n)); e != code {
				t.Errorf("%v: Split of a leaf of %d pairs: %v", f, n, e)
			}
			if n < 2 {
				continue
			}
			want, code = max(0, n-3), api.OK
			if n < 4 {
				code = api.ErrNoCut
			}
			if x := cuts(t, f, manyKids(f, n)); x != want {
				t.Errorf("%v: a branch of %d kids has %d cuts", f, n, x)
			}
			if e := splits(t, f, manyKids(f, n)); e != code {
				t.Errorf("%v: Split of a branch of %d kids: %v", f, n, e)
			}
		}
	}
}

// Cuts may be gone through again, each walk from the first cut on, and left early, at each of them.
func TestCutsTwiceAndLeftEarly(t *testing.T) {
	for _, f := range few() {
		for _, n := range []api.Node{many(6), leaf("b", "1", "d", "2", "f", "3"), manyKids(f, 8), branch(f, "c", "f", "i")} {
			want := dueCuts(f, n)
			walk := graft.Cuts(f, n)
			for most := range len(want) + 2 {
				var got []cut
				for i, sides := range walk {
					if len(got) == most {
						break
					}
					got = append(got, cut{i, sides})
					sides[0], sides[1] = 0, 0
				}
				if !slices.Equal(got, want[:min(most, len(want))]) {
					t.Fatalf("the first %d: %v: %s", most, got, brief(f, n))
				}
			}
			calls := 0
			walk(func(int, [2]int) bool { calls++; return false })
			if calls != 1 {
				t.Error("told again once it was left:", calls)
			}
			inner := 0
			for range walk {
				for range walk {
					inner++
				}
			}
			if inner != len(want)*len(want) {
				t.Error("walks within one another:", inner)
			}
		}
	}
}

// What was handed to Cuts is not kept: that it is written over, ahead of a walk or within one, is not seen.
func TestCutsKeepsNothing(t *testing.T) {
	for _, f := range few() {
		for _, given := range []api.Node{many(200), leafOf(room(f)), manyKids(f, 200), branchOf(f, room(f))} {
			n := changed(given, func(*api.Node) {})
			want := dueCuts(f, n)
			walk := graft.Cuts(f, n)
			for range 2 {
				var got []cut
				for i, sides := range walk {
					got = append(got, cut{i, sides})
					scribble(n)
				}
				if !slices.Equal(got, want) {
					t.Fatal("what is written into the node is seen:", brief(f, given))
				}
			}
		}
	}
}

// 8.6: of several cuts whose larger side has the same size, the least number counts.
func TestSplitOfTies(t *testing.T) {
	t.Parallel()
	for _, f := range frames() {
		for n := 3; n <= 15; n += 2 {
			if h, e := graft.Split(f, many(n)); e != api.OK || len(h.Left.Pairs) != n/2 || len(h.Right.Pairs) != n/2+1 {
				t.Error(f, n, e, len(h.Left.Pairs))
			}
		}
		for n := 5; n <= 15; n += 2 {
			if h, e := graft.Split(f, manyKids(f, n)); e != api.OK || len(h.Left.Kids) != n/2 || len(h.Right.Kids) != n/2+1 {
				t.Error(f, n, e, len(h.Left.Kids))
			}
		}
		// Pairs of 8, 6 and 8 bytes: both cuts have a side of 10 bytes and one of 16.
		n := leaf("a", "12345", "b", "123", "c", "12345")
		if h, e := graft.Split(f, n); e != api.OK || len(h.Left.Pairs) != 1 || h.Sep != "b" {
			t.Error(f, e, parts(f, h))
		}
	}
}

// Where one thing is larger than all others, it has a side to itself, or nearly.
func TestSplitOfUnevenNodes(t *testing.T) {
	for _, f := range frames() {
		val := strings.Repeat("v", mostVal(f))
		for at := range 6 {
			n := changed(many(6), func(n *api.Node) { n.Pairs[at].Val = val })
			splits(t, f, n)
			h, e := graft.Split(f, n)
			// The large pair goes where the larger side is the smaller: with the fewer others.
			want := []int{1, 2, 3, 3, 4, 5}[at]
			if e != api.OK || len(h.Left.Pairs) != want {
				t.Errorf("%v: the pair %d is large: %d go left", f, at, len(h.Left.Pairs))
			}
		}
		high := strings.Repeat("\xff", mostKey(f))
		for _, seps := range [][]string{{"a", "b", "c", "d", high}, {high[1:], high, high + "x"}, {high[2:], high[1:], high}, {"a", "b", high[1:], high}} {
			splits(t, f, branch(f, seps...))
			cuts(t, f, branch(f, seps...))
		}
	}
}

func TestCutsAndSplitByChance(t *testing.T) {
	t.Parallel()
	by := rand.New(rand.NewSource(86))
	told := map[api.Errno]int{}
	ties := 0
	for range 6000 {
		f := anyFrame(by)
		n := some(by, f)
		fullOrThin(t, f, n)
		cuts(t, f, n)
		told[splits(t, f, n)]++
		seen := map[int]int{}
		low := 1 << 30
		for _, c := range dueCuts(f, n) {
			larger := max(c.sides[0], c.sides[1])
			low = min(low, larger)
			seen[larger]++
		}
		if seen[low] > 1 {
			ties++
		}
	}
	if told[api.OK] < 1000 || told[api.ErrNoCut] < 300 || told[api.ErrShape] < 300 || ties < 30 {
		t.Error("too few:", told, ties)
	}
}
