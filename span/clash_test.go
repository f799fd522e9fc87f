package span_test

import (
	"fmt"
	"testing"

	"heartwood/api"
	"heartwood/node"
	"heartwood/pack"
	"heartwood/span"
	"heartwood/sums"
)

// isClash looks for the place at which two proofs of one range under one root, which are unlike, have unlike forms of one digest, and holds the texts of these against layer 2 (P16.7, P16.8).
func isClash(t *testing.T, f api.Frame, root api.Digest, one, two string) {
	t.Helper()
	if one == two {
		t.Fatalf("%v: these proofs are alike", f)
	}
	a, b := formsOf(t, f, one), formsOf(t, f, two)
	for i := range min(len(a), len(b)) {
		if a[i] == b[i] {
			continue
		}
		if !sums.Clash(f.Width, textOfForm(a[i]), textOfForm(b[i])) {
			t.Errorf("%v: the forms at %d are unlike and no clash: %x, %x", f, i, a[i], b[i])
		}
		return
	}
	t.Errorf("%v: no forms that are unlike", f)
}

// textOfForm is the text that a form's digest is made of.
func textOfForm(form string) string {
	tag := "branch"
	if form[0] == 1 {
		tag = "leaf"
	}
	text, _ := sums.Text(tag, form)
	return text
}

// twin is another node of that digest, made by make of some number.
func twin(t *testing.T, f api.Frame, of api.Node, make func(i int) api.Node) api.Node {
	t.Helper()
	sum := sumOf(t, f, of)
	for i := range 1 << 20 {
		if n := make(i); sumOf(t, f, n) == sum && !node.Same(n, of) {
			return n
		}
	}
	t.Fatalf("%v: no two of one digest", f)
	return api.Node{}
}

// Where digests are short there are unlike proofs of one range under one root: both are read, each as what it says, and a clash is at hand.
func TestTwoOfOneDigest(t *testing.T) {
	for _, f := range []api.Frame{{Page: 1024, Width: 1}, {Page: 1024, Width: 2}, {Page: 4096, Width: 1}, {Page: 8192, Width: 2}} {
		one := leaf("d=0", "e=0")
		two := twin(t, f, one, func(i int) api.Node { return leaf("d=0", fmt.Sprintf("e=%d", i+1)) })
		left, right := leaf("a=1", "c=2"), leaf("g=3")
		for _, r := range []keyRange{{"", ""}, {"b", "z"}, {"e", "h"}, {"c", "f"}} {
			above := func(n api.Node) *twig {
				return with(branch(f, "d", "g"), 0, alone(left), alone(n), alone(right))
			}
			root, forms := linked(t, f, above(one))
			again, others := linked(t, f, above(two))
			if again != root {
				t.Fatalf("%v: %x and %x", f, root, again)
			}
			pairs := func(n api.Node) []api.Pair {
				return r.of(append(append(leaf("a=1", "c=2").Pairs, n.Pairs...), right.Pairs...))
			}
			of := func(forms []string) string {
				var l []string
				for i, form := range forms {
					if i == 0 || r.mayHave(branch(f, "d", "g"), i-1) {
						l = append(l, form)
					}
				}
				return pack.Join(l...)
			}
			a, b := of(forms), of(others)
			taken(t, "the one", f, root, r, a, pairs(one))
			taken(t, "the other", f, root, r, b, pairs(two))
			isClash(t, f, root, a, b)
			isClash(t, f, root, b, a)
			if span.Verify(f, root, r.lo, r.hi, pairs(one), b) || span.Verify(f, root, r.lo, r.hi, pairs(two), a) {
				t.Errorf("%v: %q: one proof verifies what the other says", f, r)
			}
		}
	}
}

// Two branches of one digest, which lead to unlike kids, to more of them or to fewer; and a leaf in a branch's place.
func TestBranchesOfOneDigest(t *testing.T) {
	f := api.Frame{Page: 1024, Width: 1}
	all := keyRange{"", ""}
	one := with(branch(f, "c", "g"), 0, alone(leaf("a=1")), alone(leaf("e=2")), alone(leaf("g=3")))
	root, forms := linked(t, f, one)
	a := pack.Join(forms...)
	taken(t, "the one", f, root, all, a, leaf("a=1", "e=2", "g=3").Pairs)
	// The other has two kids; it is the separator's number that is looked for.
	for i := 0; ; i++ {
		two := with(branch(f, fmt.Sprintf("d%d", i)), 0, alone(leaf("a=1")), alone(leaf("x=4")))
		if sum, forms := linked(t, f, two); sum == root {
			b := pack.Join(forms...)
			taken(t, "the other", f, root, all, b, leaf("a=1", "x=4").Pairs)
			isClash(t, f, root, a, b)
			refused(t, "the one's branch over the other's kids", f, root, all, pack.Join(append([]string{formsOf(t, f, a)[0]}, forms[1:]...)...))
			break
		}
	}
	of, e := node.Read(f, forms[0])
	if e != api.OK {
		t.Fatal(e)
	}
	single := twin(t, f, of, func(i int) api.Node { return leaf(fmt.Sprintf("e=%d", i)) })
	c := pack.Join(plain(t, f, single))
	taken(t, "a leaf alone", f, root, all, c, single.Pairs)
	isClash(t, f, root, a, c)
	isClash(t, f, root, c, a)
}

// The empty leaf's digest is a leaf's too, where it is short: alone both prove, and below a branch the one that has a pair.
func TestTheEmptyLeafsTwin(t *testing.T) {
	f := api.Frame{Page: 1024, Width: 1}
	all := keyRange{"", ""}
	other := twin(t, f, api.Node{}, func(i int) api.Node { return leaf(fmt.Sprintf("e=%d", i)) })
	sum, _ := node.Empty(f)
	a, b := pack.Join("\x01\x00"), pack.Join(plain(t, f, other))
	taken(t, "the empty leaf", f, sum, all, a, nil)
	taken(t, "its twin", f, sum, all, b, other.Pairs)
	isClash(t, f, sum, a, b)
	root, forms := linked(t, f, with(branch(f, "c"), 0, alone(leaf("a=1")), alone(other)))
	taken(t, "its twin under a branch", f, root, all, pack.Join(forms...), append(leaf("a=1").Pairs, other.Pairs...))
	refused(t, "the empty leaf in its place", f, root, all, pack.Join(forms[0], forms[1], "\x01\x00"))
}

// A twin that does not keep the bounds of its place is no way round.
func TestTwinsOutOfTheirBounds(t *testing.T) {
	f := api.Frame{Page: 1024, Width: 1}
	all := keyRange{"", ""}
	root, forms := linked(t, f, with(branch(f, "d", "g"), 0, alone(leaf("a=1")), alone(leaf("e=1")), alone(leaf("g=1"))))
	for _, key := range []string{"c", "g", "z"} {
		other := twin(t, f, leaf("e=1"), func(i int) api.Node { return leaf(fmt.Sprintf("%s=%d", key, i)) })
		refused(t, "a twin with the key "+key, f, root, all, pack.Join(forms[0], forms[1], plain(t, f, other), forms[3]))
	}
	other := twin(t, f, leaf("e=1"), func(i int) api.Node { return leaf(fmt.Sprintf("d=%d", i)) })
	taken(t, "a twin within", f, root, all, pack.Join(forms[0], forms[1], plain(t, f, other), forms[3]), append(append(leaf("a=1").Pairs, other.Pairs...), leaf("g=1").Pairs...))
}
