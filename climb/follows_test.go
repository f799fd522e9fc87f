package climb_test

import (
	"fmt"
	"math/rand"
	"slices"
	"strings"
	"testing"

	"heartwood/api"
	"heartwood/climb"
	"heartwood/trunk"
)

// forest calls do with trees by chance, of one level and of more, in all frames.
func forest(t *testing.T, seed int64, many []int, do func(t *testing.T, r *rand.Rand, w *twig, y *trial)) {
	t.Helper()
	for i, f := range frames() {
		t.Run(fmt.Sprint(f), func(t *testing.T) {
			t.Parallel()
			r := rand.New(rand.NewSource(seed + int64(i)))
			heights := map[int]int{}
			for _, n := range many {
				w := grown(r, f, somePairs(r, f, n, n > 20), counter(r))
				y := trialOf(t, f, w)
				shape, e := y.x.Shape()
				if e != api.OK || shape.Count != uint64(n) {
					t.Fatalf("%d pairs: %v %v", n, shape, e)
				}
				heights[shape.Height]++
				do(t, r, w, y)
			}
			if heights[1] == 0 || heights[2] == 0 || heights[3] == 0 {
				t.Errorf("heights: %v", heights)
			}
		})
	}
}

// TestTrees makes every call of trees by chance, and holds it against the rule and the plain list.
func TestTrees(t *testing.T) {
	forest(t, 10, []int{1, 2, 8, 20, 200}, func(t *testing.T, r *rand.Rand, w *twig, y *trial) {
		keys, pairs := texts(w), pairsOf(w)
		for range 6 {
			lo, hi := keys[r.Intn(len(keys))], keys[r.Intn(len(keys))]
			y.span(r, lo, hi)
			onList(t, y, pairs, lo, hi)
		}
		v := y.ride()
		v.wander(r, keys, 100)
	})
}

// standsAt complains, if a cursor does not stand at a pair.
func standsAt(t *testing.T, what string, c *climb.Cursor, want api.Pair) {
	t.Helper()
	if p, is := c.Pair(); p != want || !is {
		t.Fatalf("%s: stands at %.70q %v, and not at %.70q", what, p, is, want)
	}
}

// fine complains of an error.
func fine(t *testing.T, what string, e api.Errno) {
	t.Helper()
	if e != api.OK {
		t.Fatalf("%s: %v", what, e)
	}
}

// TestAllPairs: 11.7, from First on and from Last on, and each step back and forth.
func TestAllPairs(t *testing.T) {
	forest(t, 300, []int{1, 3, 25, 200}, func(t *testing.T, r *rand.Rand, w *twig, y *trial) {
		pairs := pairsOf(w)
		c, e := climb.New(y.x)
		fine(t, "New", e)
		fine(t, "First", c.First())
		for i, p := range pairs {
			standsAt(t, "Next by Next", c, p)
			if i+1 < len(pairs) {
				fine(t, "Next", c.Next())
				standsAt(t, "Next", c, pairs[i+1])
				fine(t, "Back", c.Back())
				standsAt(t, "Back behind Next", c, p)
			}
			fine(t, "Next", c.Next())
		}
		stands(t, "behind the last", c, "")
		fine(t, "Last", c.Last())
		for i, p := range slices.Backward(pairs) {
			standsAt(t, "Back by Back", c, p)
			if i > 0 {
				fine(t, "Back", c.Back())
				standsAt(t, "Back", c, pairs[i-1])
				fine(t, "Next", c.Next())
				standsAt(t, "Next behind Back", c, p)
			}
			fine(t, "Back", c.Back())
		}
		stands(t, "ahead of the first", c, "")
	})
}

// allOf are the pairs that an iterator tells, without an error.
func allOf(t *testing.T, seq func(func(api.Pair, api.Errno) bool)) []api.Pair {
	t.Helper()
	var l []api.Pair
	for p, e := range seq {
		fine(t, "an iterator", e)
		l = append(l, p)
	}
	return l
}

// TestDownIsUp: 11.8.
func TestDownIsUp(t *testing.T) {
	forest(t, 600, []int{1, 12, 40, 200}, func(t *testing.T, r *rand.Rand, w *twig, y *trial) {
		keys := texts(w)
		for range 12 {
			three := []string{keys[r.Intn(len(keys))], keys[r.Intn(len(keys))], keys[r.Intn(len(keys))]}
			slices.Sort(three)
			lo, mid, hi := three[0], three[1], three[2]
			if r.Intn(3) == 0 {
				hi = ""
			}
			if mid == "" {
				// The range up to it would be one without an end.
				mid = "\x00"
			}
			both := allOf(t, climb.Up(y.x, lo, hi))
			touching := slices.Concat(allOf(t, climb.Up(y.x, lo, mid)), allOf(t, climb.Up(y.x, mid, hi)))
			if hi == "" || mid <= hi {
				if !slices.Equal(both, touching) {
					t.Fatalf("%.70q, %.70q, %.70q: %d pairs, and %d in two ranges", lo, mid, hi, len(both), len(touching))
				}
			}
			down := allOf(t, climb.Down(y.x, lo, hi))
			slices.Reverse(down)
			if !slices.Equal(both, down) {
				t.Fatalf("%.70q, %.70q: %d pairs, and %d downwards", lo, hi, len(both), len(down))
			}
			l, e := climb.List(y.x, lo, hi, 0)
			n, g := climb.Count(y.x, lo, hi)
			if !slices.Equal(l, both) || n != len(both) || e != api.OK || g != api.OK {
				t.Fatalf("%.70q, %.70q: List %d %v, Count %d %v, Up %d", lo, hi, len(l), e, n, g, len(both))
			}
		}
	})
}

// TestSeekIsCeil: 11.9, of keys at, below and above keys and separators; and the places of two cursors.
func TestSeekIsCeil(t *testing.T) {
	forest(t, 900, []int{1, 12, 40, 200}, func(t *testing.T, r *rand.Rand, w *twig, y *trial) {
		a, _ := climb.New(y.x)
		b, _ := climb.New(y.x)
		for _, key := range picked(r, texts(w), 60) {
			fine(t, "Seek", a.Seek(key))
			want, due := ceil(t, y.x, key)
			if p, is := a.Pair(); p != want || is != due {
				t.Fatalf("Seek(%.70q): %.70q %v, and Ceil %.70q %v", key, p, is, want, due)
			}
			p, isP := a.Pair()
			q, isQ := b.Pair()
			if isP && isQ && slices.Compare(a.Place(), b.Place()) != strings.Compare(p.Key, q.Key) {
				t.Fatalf("%.70q at %v, and %.70q at %v", p.Key, a.Place(), q.Key, b.Place())
			}
			a, b = b, a
		}
		// Each pair's place leads to it, by the nodes that trunk tells of the way.
		fine(t, "First", a.First())
		var last []int
		for i, p := range pairsOf(w) {
			standsAt(t, "Next", a, p)
			at := a.Place()
			if i > 0 && slices.Compare(last, at) >= 0 {
				t.Fatalf("%v is not behind %v", at, last)
			}
			end := len(at) - 1
			if n, e := y.x.At(at[:end]...); e != api.OK || n.Pairs[at[end]] != p {
				t.Fatalf("%v leads to another pair: %v", at, e)
			}
			last = at
			fine(t, "Next", a.Next())
		}
	})
}

// ceil is trunk's answer.
func ceil(t *testing.T, x *trunk.Tree, key string) (api.Pair, bool) {
	t.Helper()
	p, is, e := x.Ceil(key)
	fine(t, "Ceil", e)
	return p, is
}
