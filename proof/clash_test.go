package proof_test

import (
	"fmt"
	"testing"

	"heartwood/api"
	"heartwood/node"
	"heartwood/pack"
	"heartwood/proof"
	"heartwood/sums"
)

// isClash looks for the place at which two proofs of one key under one root, which are unlike, have unlike forms of one digest, and holds the texts of these against layer 2 (P15.7).
func isClash(t *testing.T, f api.Frame, root api.Digest, key, one, two string) {
	t.Helper()
	if one == two {
		t.Fatalf("%v: %.20q: these proofs are alike", f, key)
	}
	a, _, e := proof.Forms(f, root, key, one)
	b, _, code := proof.Forms(f, root, key, two)
	if e != api.OK || code != api.OK {
		t.Fatalf("%v: %.20q: no proofs: %v %v", f, key, e, code)
	}
	for i := range min(len(a), len(b)) {
		if a[i] == b[i] {
			continue
		}
		if !sums.Clash(f.Width, textOfForm(a[i]), textOfForm(b[i])) {
			t.Errorf("%v: %.20q: the forms at %d are unlike and no clash: %x, %x", f, key, i, a[i], b[i])
		}
		return
	}
	t.Errorf("%v: %.20q: no forms that are unlike", f, key)
}

// textOfForm is the text that a form's digest is made of.
func textOfForm(form string) string {
	tag := "branch"
	if form[0] == 1 {
		tag = "leaf"
	}
	text, _ := sums.Text(tag, form)
	return text
}

// twins are two unlike leaves of one digest, both with that key, each made by make of a number.
func twins(t *testing.T, f api.Frame, make func(i int) api.Node) (api.Node, api.Node) {
	t.Helper()
	had := map[api.Digest]api.Node{}
	for i := range 100000 {
		n := make(i)
		sum := sumOf(t, f, n)
		if other, is := had[sum]; is {
			return other, n
		}
		had[sum] = n
	}
	t.Fatalf("%v: no two of one digest", f)
	return api.Node{}, api.Node{}
}

// Where digests are short there are unlike proofs of one key under one root: both are read, each as what it says, and a clash is at hand.
func TestTwoOfOneDigest(t *testing.T) {
	for _, f := range []api.Frame{{Page: 1024, Width: 1}, {Page: 1024, Width: 2}, {Page: 4096, Width: 1}, {Page: 8192, Width: 2}} {
		one, two := twins(t, f, func(i int) api.Node { return leaf("d=0", fmt.Sprintf("e=%d", i)) })
		for _, above := range [][]api.Node{nil, {branch(f, "d", "g")}, {branch(f, "a"), branch(f, "d", "g")}} {
			root, forms := linked(t, f, "e", append(above, one)...)
			again, others := linked(t, f, "e", append(above, two)...)
			if again != root {
				t.Fatalf("%v: %x and %x", f, root, again)
			}
			a, b := pack.Join(forms...), pack.Join(others...)
			taken(t, "the one", f, root, "e", a, api.Answer{Found: true, Val: one.Pairs[1].Val})
			taken(t, "the other", f, root, "e", b, api.Answer{Found: true, Val: two.Pairs[1].Val})
			taken(t, "the one, of a key that neither has", f, root, "dd", a, api.Answer{})
			taken(t, "the other, of a key that neither has", f, root, "dd", b, api.Answer{})
			isClash(t, f, root, "e", a, b)
			isClash(t, f, root, "dd", b, a)
		}
	}
}

// One key is there in the one and not in the other.
func TestFoundInOneOfTwo(t *testing.T) {
	f := api.Frame{Page: 2048, Width: 1}
	_, with := twins(t, f, func(i int) api.Node { return leaf(fmt.Sprintf("e=%d", i)) })
	sum := sumOf(t, f, with)
	without := api.Node{}
	for i := 0; ; i++ {
		if without = leaf(fmt.Sprintf("d=%d", i)); sumOf(t, f, without) == sum {
			break
		}
	}
	root, forms := linked(t, f, "e", branch(f, "c"), with)
	again, others := linked(t, f, "e", branch(f, "c"), without)
	if root != again {
		t.Fatal("the roots are unlike")
	}
	a, b := pack.Join(forms...), pack.Join(others...)
	taken(t, "with it", f, root, "e", a, api.Answer{Found: true, Val: with.Pairs[0].Val})
	taken(t, "without it", f, root, "e", b, api.Answer{})
	isClash(t, f, root, "e", a, b)
}

// Two branches of one digest, of which the ways of a key go to unlike kids; and a leaf and a branch of one digest.
func TestBranchesOfOneDigest(t *testing.T) {
	f := api.Frame{Page: 1024, Width: 1}
	left, right := leaf("e=1"), leaf("e=2")
	sum := func(n api.Node) api.Digest { return sumOf(t, f, n) }
	make := func(i int) api.Node {
		n := branch(f, "c", "g", fmt.Sprintf("h%d", i))
		n.Kids[1].Sum = sum(left)
		return n
	}
	root := sum(make(0))
	other := api.Node{}
	for i := 0; ; i++ {
		other = branch(f, fmt.Sprintf("d%d", i))
		other.Kids[1].Sum = sum(right)
		if sum(other) == root {
			break
		}
	}
	a := pack.Join(plain(t, f, make(0)), plain(t, f, left))
	b := pack.Join(plain(t, f, other), plain(t, f, right))
	taken(t, "by the one branch", f, root, "e", a, api.Answer{Found: true, Val: "1"})
	taken(t, "by the other", f, root, "e", b, api.Answer{Found: true, Val: "2"})
	isClash(t, f, root, "e", a, b)
	single := api.Node{}
	for i := 0; ; i++ {
		if single = leaf(fmt.Sprintf("e=%d", i)); sum(single) == root {
			break
		}
	}
	c := pack.Join(plain(t, f, single))
	taken(t, "a leaf alone", f, root, "e", c, api.Answer{Found: true, Val: single.Pairs[0].Val})
	isClash(t, f, root, "e", a, c)
	isClash(t, f, root, "e", c, b)
}

// The empty leaf's digest is a leaf's too, where it is short: alone both prove, and below a branch the one that has a pair.
func TestTheEmptyLeafsTwin(t *testing.T) {
	f := api.Frame{Page: 1024, Width: 1}
	sum, _ := node.Empty(f)
	twin := api.Node{}
	for i := 0; ; i++ {
		if twin = leaf(fmt.Sprintf("e=%d", i)); sumOf(t, f, twin) == sum {
			break
		}
	}
	a, b := pack.Join("\x01\x00"), pack.Join(plain(t, f, twin))
	taken(t, "the empty leaf", f, sum, "e", a, api.Answer{})
	taken(t, "its twin", f, sum, "e", b, api.Answer{Found: true, Val: twin.Pairs[0].Val})
	isClash(t, f, sum, "e", a, b)
	root, forms := linked(t, f, "e", branch(f, "c"), twin)
	taken(t, "its twin under a branch", f, root, "e", pack.Join(forms...), api.Answer{Found: true, Val: twin.Pairs[0].Val})
	refused(t, "the empty leaf in its place", f, root, "e", pack.Join(forms[0], "\x01\x00"))
}
