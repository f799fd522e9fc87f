package node_test

import (
	"fmt"
	"math/rand"
	"strings"
	"testing"

	"heartwood/api"
	"heartwood/node"
	"heartwood/sums"
)

// there complains, if a node that has both forms is not read back from them, or is laid again as other bytes.
func there(t *testing.T, f api.Frame, n api.Node) {
	t.Helper()
	s, e := node.Pack(f, n)
	m, e2 := node.Unpack(f, s)
	again, e3 := node.Pack(f, m)
	if e != api.OK || e2 != api.OK || e3 != api.OK || !alike(m, n) || again != s {
		t.Fatalf("Pack and Unpack: %v, %v, %v: %s", e, e2, e3, brief(f, n))
	}
	s, e = node.Plain(f, n)
	m, e2 = node.Read(f, s)
	again, e3 = node.Plain(f, m)
	if e != api.OK || e2 != api.OK || e3 != api.OK || !alike(m, unpaged(n)) || again != s {
		t.Fatalf("Plain and Read: %v, %v, %v: %s", e, e2, e3, brief(f, n))
	}
}

// 7.7, the first half: there and back, from nodes.
func TestThereAndBack(t *testing.T) {
	t.Parallel()
	for _, f := range frames() {
		for _, n := range nodes(f)[1:] {
			there(t, f, n)
		}
	}
	by := rand.New(rand.NewSource(77))
	went := 0
	for range 5000 {
		f := api.Frame{Page: sizes()[by.Intn(4)], Width: 1 + by.Intn(32)}
		if n := some(by, f); second(due(f, n)) == api.OK {
			there(t, f, n)
			went++
		}
	}
	if went < 1000 {
		t.Error("too few:", went)
	}
}

func second(_, x, _ api.Errno) api.Errno { return x }

// 7.7, back and there: what is taken of bytes by chance is laid as these bytes.
func TestBackAndThere(t *testing.T) {
	t.Parallel()
	by := rand.New(rand.NewSource(78))
	unpacked, read := 0, 0
	for range 30000 {
		f := api.Frame{Page: 1024, Width: 1 + by.Intn(3)}
		b := make([]byte, by.Intn(14))
		for i := range b {
			b[i] = byte(by.Intn(3))
		}
		s := string([]byte{byte(1 + by.Intn(2)), byte(by.Intn(4))}) + string(b)
		if n, e := node.Unpack(f, s); e == api.OK {
			unpacked++
			if again, e := node.Pack(f, n); e != api.OK || again != s {
				t.Fatalf("Pack of Unpack: %x, %v, and not %x", again, e, s)
			}
		}
		if n, e := node.Read(f, s); e == api.OK {
			read++
			if again, e := node.Plain(f, n); e != api.OK || again != s {
				t.Fatalf("Plain of Read: %x, %v, and not %x", again, e, s)
			}
		}
	}
	if unpacked < 100 || read < 300 {
		t.Error("too few were taken:", unpacked, read)
	}
}

// 7.7, one form: nodes of one plain form differ in their kids' pages at most, and no leaf's is a branch's.
func TestOneForm(t *testing.T) {
	by := rand.New(rand.NewSource(79))
	for _, f := range []api.Frame{{Page: 1024, Width: 1}, {Page: 2048, Width: 2}} {
		seen := map[string]api.Node{}
		twice := 0
		for range 20000 {
			n := small(by)
			s, e := node.Plain(f, n)
			if e != api.OK {
				t.Fatal(e, brief(f, n))
			}
			if isLeaf := len(n.Kids) == 0; isLeaf != strings.HasPrefix(s, "\x01") || isLeaf == strings.HasPrefix(s, "\x02") {
				t.Fatalf("%x: %s", s, brief(f, n))
			}
			m, had := seen[s]
			if had && !alike(unpaged(m), unpaged(n)) {
				t.Fatalf("%x is the plain form of %s and of %s", s, brief(f, n), brief(f, m))
			}
			if had && !alike(m, n) {
				twice++
			}
			seen[s] = n
		}
		if twice < 100 || len(seen) < 1000 {
			t.Error("too few:", twice, len(seen))
		}
	}
}

// small answers a well shaped node of few bytes, so that some come again.
func small(by *rand.Rand) api.Node {
	keys := []string{}
	for _, k := range []string{"\x00", "\x01", "\x01\x01", "\x02", "\x02\x01\x00"} {
		if by.Intn(2) == 0 {
			keys = append(keys, k)
		}
	}
	var n api.Node
	if by.Intn(2) == 0 {
		for _, k := range keys {
			n.Pairs = append(n.Pairs, api.Pair{Key: k, Val: strings.Repeat("\x01", by.Intn(3))})
		}
		return n
	}
	n.Seps = append(keys, "\x02\x02")
	for range len(n.Seps) + 1 {
		n.Kids = append(n.Kids, api.Kid{Page: uint32(2 + by.Intn(3)), Sum: api.Digest{byte(by.Intn(3))}})
	}
	return n
}

// 7.5: a digest is layer 2's of the tag and the plain form, its only part.
func TestSumIsLayerTwosDigest(t *testing.T) {
	t.Parallel()
	for _, f := range frames() {
		for _, n := range nodes(f) {
			tag, other := "branch", "leaf"
			if len(n.Kids) == 0 {
				tag, other = "leaf", "branch"
			}
			plain, e := node.Plain(f, n)
			want, e2 := sums.Digest(f.Width, tag, plain)
			if d, e3 := node.Sum(f, n); e != api.OK || e2 != api.OK || e3 != api.OK || d != want || !sums.Fits(f.Width, d) {
				t.Fatalf("Sum: %x, and not %x: %s", d, want, brief(f, n))
			}
			if x, _ := sums.Digest(f.Width, other, plain); f.Width > 8 && x == want {
				t.Fatal("the tag says nothing:", brief(f, n))
			}
		}
		want, _ := sums.Digest(f.Width, "leaf", "\x01\x00")
		if d, e := node.Empty(f); e != api.OK || d != want {
			t.Errorf("Empty: %x, %v", d, e)
		}
		if d, e := node.Sum(f, api.Node{}); e != api.OK || d != want {
			t.Errorf("Sum of the empty leaf: %x, %v", d, e)
		}
	}
}

// 7.5: where Plain refuses, Sum does, with no digest beside it.
func TestSumRefusesAsPlainDoes(t *testing.T) {
	for _, f := range few() {
		all := large(f)
		for _, n := range wrong(f) {
			all = append(all, n)
		}
		for _, n := range all {
			_, want := node.Plain(f, n)
			if d, e := node.Sum(f, n); want == api.OK || e != want || d != (api.Digest{}) {
				t.Errorf("Sum: %x, %v, and not %v: %s", d, e, want, brief(f, n))
			}
		}
	}
}

// textOf answers the text that a node's digest is of.
func textOf(t *testing.T, f api.Frame, n api.Node) string {
	t.Helper()
	tag := "branch"
	if len(n.Kids) == 0 {
		tag = "leaf"
	}
	plain, e := node.Plain(f, n)
	s, e2 := sums.Text(tag, plain)
	if e != api.OK || e2 != api.OK {
		t.Fatal(e, e2)
	}
	return s
}

// 7.8: two nodes of one digest differ in their kids' pages at most, or their texts clash. At the width 1 such are met.
func TestOneDigestOfTwoNodes(t *testing.T) {
	f := api.Frame{Page: 1024, Width: 1}
	var all []api.Node
	for i := range 150 {
		all = append(all, leaf(fmt.Sprint("k", i), "v"), branch(f, fmt.Sprint("s", i)))
	}
	all = append(all, with(all[1], func(n *api.Node) { n.Kids[0].Page = 99 }), api.Node{})
	clashes, mixedKinds, pagesAlone := 0, 0, 0
	for i, a := range all {
		for _, b := range all[:i] {
			x, e := node.Sum(f, a)
			y, e2 := node.Sum(f, b)
			if e != api.OK || e2 != api.OK {
				t.Fatal(e, e2)
			}
			s, r := textOf(t, f, a), textOf(t, f, b)
			if clash := sums.Clash(1, s, r); x == y && clash == alike(unpaged(a), unpaged(b)) || x != y && clash {
				t.Fatalf("%x and %x, %v: %s and %s", x, y, clash, brief(f, a), brief(f, b))
			}
			switch {
			case x == y && s == r:
				pagesAlone++
			case x == y:
				clashes++
				if len(a.Kids) != len(b.Kids) {
					mixedKinds++
				}
			}
		}
	}
	if clashes < 50 || mixedKinds < 10 || pagesAlone != 1 {
		t.Error(clashes, mixedKinds, pagesAlone)
	}
}

// 7.9: what a pair, and a kid with its separator, takes of a size at most, and that it can take as much.
func TestBoundsOfSizes(t *testing.T) {
	for _, f := range frames() {
		if x := node.Size(f, api.Node{}); x != 2 {
			t.Error("the empty leaf's size:", x)
		}
		pair, kid := mostKey(f)+mostVal(f)+4, mostKey(f)+6+f.Width
		key := strings.Repeat("k", mostKey(f))
		one := leaf(key, strings.Repeat("v", mostVal(f)))
		two := with(one, func(n *api.Node) { n.Pairs = append(n.Pairs, api.Pair{Key: "l", Val: one.Pairs[0].Val}) })
		short := 0 // of a key that has a length of one byte, one byte less
		if mostKey(f) < 128 {
			short = 1
		}
		if x := node.Size(f, one) - node.Size(f, api.Node{}); x != pair-short {
			t.Errorf("%v: the largest pair takes %d, and not %d", f, x, pair-short)
		}
		if x := node.Size(f, two) - node.Size(f, one); x != mostVal(f)+4 {
			t.Errorf("%v: a second pair takes %d, and not %d", f, x, mostVal(f)+4)
		}
		b := branch(f, "a")
		more := branch(f, "a", key)
		if x := node.Size(f, more) - node.Size(f, b); x != kid-short {
			t.Errorf("%v: the largest kid takes %d, and not %d", f, x, kid-short)
		}
	}
}

// 7.9 of nodes by chance: each pair and kid by itself, and that no page changes a size.
func TestBoundsOfSizesByChance(t *testing.T) {
	by := rand.New(rand.NewSource(9))
	for range 3000 {
		f := api.Frame{Page: sizes()[by.Intn(4)], Width: 1 + by.Intn(32)}
		n := some(by, f)
		size := node.Size(f, n)
		if size == 0 {
			continue
		}
		most := 2 + len(n.Pairs)*(mostKey(f)+mostVal(f)+4) + len(n.Kids)*(mostKey(f)+6+f.Width)
		if size > most || size != len(laid(f, n, true)) {
			t.Fatalf("%d is above %d: %s", size, most, brief(f, n))
		}
		for i := range n.Kids {
			n.Kids[i].Page = by.Uint32()
		}
		if x := node.Size(f, n); x != size {
			t.Fatalf("other pages make %d of %d: %s", x, size, brief(f, n))
		}
	}
}
