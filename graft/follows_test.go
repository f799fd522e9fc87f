package graft_test

import (
	"fmt"
	"math/rand"
	"strings"
	"testing"

	"heartwood/api"
	"heartwood/graft"
)

// balanced complains, if a node has no cut, or one of its halves is full or thin.
func balanced(t *testing.T, what string, f api.Frame, n api.Node) {
	t.Helper()
	h, e := graft.Split(f, n)
	for _, half := range []api.Node{h.Left, h.Right} {
		if e != api.OK || graft.Full(f, half) || graft.Thin(f, half) || sizeOf(f, half) > room(f) || sizeOf(f, half) < least(f) {
			t.Fatalf("%s of %d bytes is cut into %d and %d, %v: %s", what, sizeOf(f, n), sizeOf(f, h.Left), sizeOf(f, h.Right), e, brief(f, n))
		}
	}
}

// 8.8: both ends, and all sizes between them in steps, in all frames.
func TestHalvesOfFullNodes(t *testing.T) {
	t.Parallel()
	for _, f := range frames() {
		for size := room(f) + 1; size <= room(f)+2*least(f); size += f.Page/16 - 1 {
			balanced(t, "a leaf", f, leafOf(size))
			balanced(t, "a branch", f, branchOf(f, size))
		}
		balanced(t, "a leaf", f, leafOf(room(f)+2*least(f)))
		balanced(t, "a branch", f, branchOf(f, room(f)+2*least(f)))
	}
}

// grown answers a node by chance whose size is within the bounds of 8.8: small things and the largest ones, mixed.
func grown(by *rand.Rand, f api.Frame, isLeaf bool) api.Node {
	var n api.Node
	goal := room(f) + 1 + by.Intn(2*least(f))
	odds := by.Intn(5)
	for i := 0; ; i++ {
		key := fmt.Sprintf("%04d", i)
		pair := api.Pair{Key: key, Val: strings.Repeat("v", by.Intn(4))}
		if by.Intn(4) < odds {
			pair = api.Pair{Key: key + strings.Repeat("k", mostKey(f)-4), Val: strings.Repeat("v", mostVal(f))}
		}
		more := changed(n, func(n *api.Node) {
			n.Pairs = append(n.Pairs, pair)
			if isLeaf {
				return
			}
			n.Pairs = nil
			n.Seps = append(n.Seps, pair.Key)
			n.Kids = kidsOf(f, 2, len(n.Seps)+1)
		})
		if sizeOf(f, more) > room(f)+2*least(f) || sizeOf(f, n) > room(f) && sizeOf(f, n) >= goal {
			return n
		}
		n = more
	}
}

func TestHalvesOfFullNodesByChance(t *testing.T) {
	t.Parallel()
	by := rand.New(rand.NewSource(88))
	for i := range 300 {
		f := anyFrame(by)
		if i%2 == 0 {
			f.Page = 1024
		}
		n := grown(by, f, i%3 > 0)
		if size := sizeOf(f, n); size <= room(f) || size > room(f)+2*least(f) {
			t.Fatal("no such node:", size, brief(f, n))
		}
		balanced(t, "a node", f, n)
	}
}

// 8.8: a put into a leaf that was not full needs one cut at most.
func TestPutNeedsOneCut(t *testing.T) {
	by := rand.New(rand.NewSource(89))
	cut := 0
	for range 60 {
		f := anyFrame(by)
		n := api.Node{}
		for range 400 {
			p := api.Pair{Key: fmt.Sprint(by.Intn(1000)), Val: strings.Repeat("v", by.Intn(2)*by.Intn(mostVal(f)+1))}
			if by.Intn(8) == 0 {
				p = api.Pair{Key: p.Key + strings.Repeat("k", mostKey(f)-len(p.Key)), Val: strings.Repeat("v", mostVal(f))}
			}
			var e api.Errno
			if n, _, e = graft.Put(f, n, p); e != api.OK {
				t.Fatal(e)
			}
			if graft.Full(f, n) {
				cut++
				balanced(t, "a leaf behind a put", f, n)
				h, _ := graft.Split(f, n)
				n = h.Left
			}
		}
	}
	if cut < 500 {
		t.Error("too few:", cut)
	}
}

// 8.8: two that are made one, of which one is thin and the other is not full, need one cut at most.
func TestMendNeedsOneCut(t *testing.T) {
	t.Parallel()
	by := rand.New(rand.NewSource(90))
	joined, borrowed := 0, 0
	for i := range 2000 {
		f := anyFrame(by)
		small := 200 + by.Intn(least(f)-200)
		size := small + room(f) - by.Intn(room(f)/2)
		n := leafOf(size)
		if i%2 == 0 {
			n = branchOf(f, size)
		}
		h := api.Halves{}
		for _, c := range dueCuts(f, n) { // the thin one on the left, or on the right
			left, right := c.sides[i/2%2], c.sides[1-i/2%2]
			if left < least(f) && right <= room(f) {
				h = cutAt(n, c.at)
			}
		}
		if h.Sep == "" {
			continue
		}
		m, is, e := graft.Mend(f, h)
		if e != api.OK || is && (graft.Full(f, m.Left) || !alike(m.Left, n)) {
			t.Fatal(is, e, parts(f, h))
		}
		if is {
			joined++
			continue
		}
		borrowed++
		for _, half := range []api.Node{m.Left, m.Right} {
			if graft.Full(f, half) || graft.Thin(f, half) {
				t.Fatalf("%d and %d: %s", sizeOf(f, m.Left), sizeOf(f, m.Right), parts(f, h))
			}
		}
	}
	if joined < 200 || borrowed < 100 {
		t.Error("too few:", joined, borrowed)
	}
}

// 8.9: Put, Find and Remove are each other's way back.
func TestPutAndBack(t *testing.T) {
	by := rand.New(rand.NewSource(91))
	anew, over := 0, 0
	for range 6000 {
		f := anyFrame(by)
		l := some(by, f)
		if shape(f, l, true, false) != api.OK {
			continue
		}
		p := api.Pair{Key: someKey(by, f), Val: strings.Repeat("w", by.Intn(1+mostVal(f)))}
		if by.Intn(3) == 0 && len(l.Pairs) > 0 {
			p.Key = l.Pairs[by.Intn(len(l.Pairs))].Key
		}
		n, had, e := graft.Put(f, l, p)
		at, is := graft.Find(n, p.Key)
		if e != api.OK || !is || n.Pairs[at] != p {
			t.Fatal("Find does not find what was put:", p, e, brief(f, n))
		}
		if again, was, e := graft.Put(f, n, p); !alike(again, n) || !was || e != api.OK {
			t.Fatal("Put of a pair that is there:", p, was, e, brief(f, again))
		}
		back, was, e := graft.Remove(f, n, p.Key)
		if e != api.OK || !was || !had && !alike(back, l) {
			t.Fatal("Remove of what was put:", p, was, e, brief(f, back))
		}
		if again, was, e := graft.Remove(f, back, p.Key); !alike(again, back) || was || e != api.OK {
			t.Fatal("Remove of a key that is not there:", p, was, e, brief(f, again))
		}
		if had {
			over++
		} else {
			anew++
		}
	}
	if anew < 500 || over < 500 {
		t.Error("too few:", anew, over)
	}
}

// 8.10 of nodes of all sorts and by chance.
func TestSplitAndBack(t *testing.T) {
	t.Parallel()
	by := rand.New(rand.NewSource(92))
	went, full := 0, 0
	back := func(f api.Frame, n api.Node) {
		t.Helper()
		h, e := graft.Split(f, n)
		if e != api.OK {
			return
		}
		if !inOrder(f, h) {
			t.Fatal("what Split answers does not stand in order:", parts(f, h))
		}
		if again, e := graft.Borrow(f, h); !same(again, h) || e != api.OK {
			t.Fatal("Borrow of what was just cut:", e, parts(f, again), parts(f, h))
		}
		m, e := graft.Merge(f, h)
		mended, one, e2 := graft.Mend(f, h)
		if graft.Full(f, n) {
			full++
			if e != api.ErrFull || e2 != api.OK || one || !same(mended, h) {
				t.Fatal("halves of a full node:", e, e2, one, parts(f, mended))
			}
			return
		}
		went++
		if e != api.OK || !alike(m, n) || e2 != api.OK || !one || !same(mended, api.Halves{Left: n}) {
			t.Fatal("halves of a node that is not full:", e, e2, one, brief(f, m), brief(f, n))
		}
	}
	for _, f := range frames() {
		for _, n := range rights(f) {
			back(f, n)
		}
	}
	for range 4000 {
		f := anyFrame(by)
		n := some(by, f)
		back(f, n)
		if c := dueCuts(f, n); len(c) > 0 { // cut elsewhere: what Borrow answers stands in order, too
			h := cutAt(n, c[by.Intn(len(c))].at)
			if h, e := graft.Borrow(f, h); e != api.OK || !inOrder(f, h) {
				t.Fatal("what Borrow answers does not stand in order:", e, parts(f, h))
			}
			if want, e := graft.Split(f, n); e != api.OK || !same(want, first(graft.Borrow(f, h))) {
				t.Fatal("Borrow is not Split of both made one:", parts(f, h))
			}
		}
	}
	if went < 500 || full < 500 {
		t.Error("too few:", went, full)
	}
}

func first(h api.Halves, _ api.Errno) api.Halves { return h }

// 8.11: what a separator is, and on which side of it a key lies.
func TestSeparators(t *testing.T) {
	t.Parallel()
	by := rand.New(rand.NewSource(93))
	f := api.Frame{Page: 1024, Width: 1}
	told := 0
	for range 20000 {
		a, b := someKey(by, f), someKey(by, f)
		s, e := graft.Between(a, b)
		if (e == api.OK) != (a < b) {
			t.Fatalf("Between(%q, %q): %v", a, b, e)
		}
		if e != api.OK {
			continue
		}
		told++
		if s <= a || s > b || len(s) > len(b) || !strings.HasPrefix(b, s) || s[:len(s)-1] > a {
			t.Fatalf("Between(%q, %q): %q", a, b, s)
		}
	}
	if told < 5000 {
		t.Error("too few:", told)
	}
	for range 3000 {
		f := anyFrame(by)
		n := some(by, f)
		h, e := graft.Split(f, n)
		if e != api.OK {
			continue
		}
		for i, p := range n.Pairs {
			if went := i < len(h.Left.Pairs); went != (p.Key < h.Sep) {
				t.Fatalf("the key %.70q and %s", p.Key, parts(f, h))
			}
		}
		if len(n.Kids) > 0 {
			key := someKey(by, f)
			i := graft.Way(n, key)
			if i > 0 && n.Seps[i-1] > key || i < len(n.Seps) && n.Seps[i] <= key || i > len(n.Seps) {
				t.Fatalf("Way of %.70q is %d: %s", key, i, brief(f, n))
			}
		}
	}
}
