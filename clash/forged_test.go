package clash_test

import (
	"fmt"
	"math/rand"
	"slices"
	"strings"
	"testing"

	"heartwood/api"
	"heartwood/clash"
	"heartwood/growth"
	"heartwood/node"
	"heartwood/proof"
	"heartwood/span"
	"heartwood/trunk"
)

// wellFormed is a tree of so many keys, which are alike but for their ends, so that separators are long and there are several levels.
func wellFormed(t *testing.T, f api.Frame, many int) *trunk.Tree {
	t.Helper()
	sum, _ := node.Empty(f)
	x, e := growth.New(f, newWell("", &[]asked{}), api.Root{Sum: sum})
	if e != api.OK {
		t.Fatal(e)
	}
	long := strings.Repeat("k", f.Page/16-4)
	for i := range many {
		if _, e := x.Put(long+number(i), strings.Repeat("v", f.Page/8-3)+number(i)[1:]); e != api.OK {
			t.Fatal(e)
		}
	}
	tree, e := x.Tree()
	if e != api.OK {
		t.Fatal(e)
	}
	if _, e := tree.Shape(); e != api.OK {
		t.Fatal(e)
	}
	return tree
}

// twigOf are a tree's nodes.
func twigOf(t *testing.T, tree *trunk.Tree) *twig {
	t.Helper()
	had := map[string]*twig{}
	for s, e := range tree.Walk() {
		if e != api.OK {
			t.Fatal(e)
		}
		w := &twig{Node: node.Copy(s.Node)}
		had[fmt.Sprint(s.Way)] = w
		if last := len(s.Way) - 1; last >= 0 {
			above := had[fmt.Sprint(s.Way[:last])]
			above.under = append(above.under, w)
		}
	}
	return had["[]"]
}

// forgery is a node by chance for the place of another one: its keys are some of those that are there, and some that are near to them.
func forgery(r *rand.Rand, f api.Frame, keys []string) *twig {
	one := func(keys []string) *twig {
		w := &twig{}
		for _, k := range keys {
			if len(w.Pairs) == 4 {
				break
			}
			if len(w.Pairs) == 0 || r.Intn(2) == 0 {
				w.Pairs = append(w.Pairs, api.Pair{Key: k, Val: fmt.Sprint("forged", r.Intn(100000))})
			}
		}
		return w
	}
	if at := r.Intn(len(keys)); at > 0 {
		return with(f, []string{keys[at]}, one(keys[:at]), one(keys[at:]))
	}
	return one(keys)
}

// forged is a twig of the same root digest as w, in which the node at a way is a forgery.
func forged(t *testing.T, r *rand.Rand, f api.Frame, w *twig, way []int) (*twig, *twig) {
	t.Helper()
	real, _, _ := place(w, way)
	other := twin(t, f, real, func(int) *twig { return forgery(r, f, keysOf(real)) })
	return in(f, w, other, way...), other
}

// place is the twig that a way leads to, and how many keys there are ahead of it, and in it.
func place(w *twig, way []int) (*twig, int, int) {
	ahead := 0
	for _, i := range way {
		for _, k := range w.under[:i] {
			ahead += len(keysOf(k))
		}
		w = w.under[i]
	}
	return w, ahead, len(keysOf(w))
}

// 17.7: whoever believes what is not the tree's, under the root of a well formed tree, has a clash at hand with the proof that the tree makes: of the node that was forged, and the one in whose place it is.
func TestForgedProofs(t *testing.T) {
	for i, f := range append(narrow(), api.Frame{Page: 1024, Width: 2}) {
		t.Run(fmt.Sprint(f), func(t *testing.T) {
			t.Parallel()
			r := rand.New(rand.NewSource(int64(173 + i)))
			many := 120
			if f.Width > 1 {
				many = 12
			}
			tree := wellFormed(t, f, many)
			w, root := twigOf(t, tree), tree.Root().Sum
			if len(w.Kids) == 0 || f.Width == 1 && len(w.under[0].Kids) == 0 {
				t.Fatalf("%v: too few levels", f)
			}
			for _, way := range ways(w) {
				liar, other := forged(t, r, f, w, way)
				real, ahead, many := place(w, way)
				keys := keysOf(w)
				for k, key := range keys {
					if (k < ahead || k >= ahead+many) && r.Intn(10) > 0 {
						continue
					}
					lies := k >= ahead && k < ahead+many
					isForged(t, tree, plant(t, f, liar), key, lies, real.Node, other.Node)
				}
				for range 6 {
					rg := keyRange{some(r, keys), some(r, append(keys, ""))}
					if r.Intn(2) == 0 {
						rg.lo = keys[ahead]
					}
					isForgedSpan(t, tree, plant(t, f, liar), root, rg, real.Node, other.Node)
				}
			}
		})
	}
}

// isForged holds a forged proof of a key against the tree's, in both orders and as a range's.
func isForged(t *testing.T, tree, liar *trunk.Tree, key string, lies bool, real, other api.Node) {
	t.Helper()
	f, root := tree.Frame(), tree.Root().Sum
	p, q := ofKey(t, liar, key), ofKey(t, tree, key)
	a, e := proof.Read(f, root, key, p)
	val, is, code := tree.Get(key)
	if e != api.OK || code != api.OK {
		t.Fatalf("%v: %.20q: %v %v", f, key, e, code)
	}
	if lies == (a == api.Answer{Found: is, Val: val}) {
		t.Fatalf("%v: %.20q: believed: %v", f, key, a)
	}
	whole := keyRange{key, key + "\x00"}
	x, y := ofRange(t, liar, whole), ofRange(t, tree, whole)
	for what, got := range map[string]told{"Points": tell(clash.Points(f, root, key, p, q)), "Spans": tell(clash.Spans(f, root, whole.lo, whole.hi, x, y)), "Mixed": tell(clash.Mixed(f, root, key, p, whole.lo, whole.hi, y))} {
		if lies {
			clashes(t, what, f, got, other, real)
		} else {
			fails(t, what, f, got, api.ErrAlike)
		}
	}
	back := tell(clash.Points(f, root, key, q, p))
	if lies {
		clashes(t, "the other order", f, back, real, other)
	} else {
		fails(t, "the other order", f, back, api.ErrAlike)
	}
}

// isForgedSpan holds a forged proof of a range against the tree's.
func isForgedSpan(t *testing.T, tree, liar *trunk.Tree, root api.Digest, r keyRange, real, other api.Node) {
	t.Helper()
	f := tree.Frame()
	x, y := ofRange(t, liar, r), ofRange(t, tree, r)
	a, e := span.Read(f, root, r.lo, r.hi, x)
	b, code := span.Read(f, root, r.lo, r.hi, y)
	if e != api.OK || code != api.OK {
		t.Fatalf("%v: %.20q: %v %v", f, r, e, code)
	}
	got := tell(clash.Spans(f, root, r.lo, r.hi, x, y))
	if slices.Equal(a, b) {
		fails(t, "believed rightly", f, got, api.ErrAlike)
		return
	}
	clashes(t, "believed wrongly", f, got, other, real)
}

// Two forgeries against each other, and trees made of them against the true one.
func TestTreesOfForgeries(t *testing.T) {
	f := api.Frame{Page: 1024, Width: 1}
	r := rand.New(rand.NewSource(174))
	tree := wellFormed(t, f, 120)
	w := twigOf(t, tree)
	for _, way := range ways(w) {
		liar, other := forged(t, r, f, w, way)
		real, _, _ := place(w, way)
		x := plant(t, f, liar)
		clashes(t, fmt.Sprint(way), f, tell(clash.Trees(tree, x)), real.Node, other.Node)
		clashes(t, fmt.Sprint(way), f, tell(clash.Trees(x, tree)), other.Node, real.Node)
		again, third := forged(t, r, f, w, way)
		if !sameForm(t, f, third.Node, other.Node) {
			clashes(t, fmt.Sprint(way), f, tell(clash.Trees(x, plant(t, f, again))), other.Node, third.Node)
		}
	}
	fails(t, "the tree, and one of its nodes elsewhere", f, tell(clash.Trees(tree, plant(t, f, w))), api.ErrAlike)
}
