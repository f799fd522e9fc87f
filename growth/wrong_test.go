package growth_test

import (
	"fmt"
	"math"
	"math/rand"
	"slices"
	"strings"
	"testing"

	"heartwood/api"
	"heartwood/node"
)

// wrongs are what a source may make of a node that it is to tell.
func wrongs(f api.Frame) map[string]func(n api.Node) api.Node {
	long := strings.Repeat("k", f.Page/16+1)
	return map[string]func(n api.Node) api.Node{
		"nothing at all": func(api.Node) api.Node { return api.Node{} },
		"an other node":  func(api.Node) api.Node { return leafOf1("other") },
		"another value or digest": func(n api.Node) api.Node {
			if len(n.Pairs) > 0 {
				n.Pairs[0].Val += "x"
			} else {
				n.Kids[0].Sum[0]++
			}
			return n
		},
		"one thing too few": func(n api.Node) api.Node {
			if len(n.Pairs) > 0 {
				n.Pairs = n.Pairs[1:]
			} else {
				n.Kids, n.Seps = n.Kids[1:], n.Seps[1:]
			}
			return n
		},
		"a key that is too long": func(n api.Node) api.Node {
			if len(n.Pairs) > 0 {
				n.Pairs[len(n.Pairs)-1].Key += long
			} else {
				n.Seps[len(n.Seps)-1] += long
			}
			return n
		},
		"pairs and kids": func(n api.Node) api.Node {
			n.Pairs = append(n.Pairs, api.Pair{Key: "\xff\xff\xff"})
			n.Kids = append(n.Kids, api.Kid{Page: 9})
			return n
		},
		"no separators": func(n api.Node) api.Node {
			n.Seps = nil
			n.Kids = append(n.Kids, api.Kid{Page: 9})
			return n
		},
		"keys in another order": func(n api.Node) api.Node {
			slices.Reverse(n.Pairs)
			slices.Reverse(n.Seps)
			return n
		},
		"a digest that does not fit": func(n api.Node) api.Node {
			if len(n.Kids) > 0 && f.Width < 32 {
				n.Kids[0].Sum[31] = 1
			} else {
				n.Seps = append(n.Seps, "x")
			}
			return n
		},
	}
}

// Each node that a call reads is refused in turn, by an error of the source's own, or as one that is not to be believed: this error is answered, and nothing has changed; where the source tells it right again, the call goes well.
func TestEachNodeRefused(t *testing.T) {
	for i, f := range []api.Frame{{Page: 1024, Width: 3}, {Page: 1024, Width: 32}, {Page: 2048, Width: 7}, {Page: 8192, Width: 32}} {
		t.Run(fmt.Sprint(f), func(t *testing.T) {
			t.Parallel()
			r := rand.New(rand.NewSource(int64(600 + i)))
			neighbours := 0
			bases := []*twig{under(least(f), least(f), least(f), least(f)), under(room(f), least(f), room(f))}
			for levels := 1; levels <= 3; levels++ {
				bases = append(bases, grownTo(t, r, f, levels))
			}
			for _, w := range bases {
				y := trialOf(t, f, w)
				for range min(25, len(y.pairs)) {
					key := y.keys()[r.Intn(len(y.pairs))]
					call := func(y *trial) api.Errno { return y.remove(key) }
					if r.Intn(3) == 0 {
						val := strings.Repeat("n", []int{0, f.Page / 8}[r.Intn(2)])
						call = func(y *trial) api.Errno { return y.put(key, val) }
					}
					way, whole := y.copied(), y.copied()
					way.put(key, y.pairs[key]) // it changes nothing, so it reads no neighbour
					call(whole)
					if len(whole.due.asked) > len(way.due.asked) {
						neighbours++
					}
					for _, no := range whole.due.asked {
						refused(t, y, no, call)
					}
					if e := call(y); e != api.OK {
						t.Fatal(e)
					}
				}
				y.plain()
			}
			if neighbours < 3 {
				t.Error("too few neighbours were read:", neighbours)
			}
		})
	}
}

// refused makes a call of which one node is told wrong, in every way.
func refused(t *testing.T, y *trial, no uint32, call func(y *trial) api.Errno) {
	t.Helper()
	right := y.s.nodes[no]
	for _, e := range []api.Errno{api.ErrIO, api.ErrOff, api.ErrNone, api.ErrNil, api.ErrArg, api.Errno(-1), api.Errno(12345)} {
		y.s.errs[no] = e
		if got := call(y); got != e {
			t.Fatalf("%v: %v of the source is answered as %v", y.f, e, got)
		}
	}
	delete(y.s.errs, no)
	for what, change := range wrongs(y.f) {
		wrong := change(node.Copy(right))
		kept := y.kept
		y.kept = func() bool { return true }
		y.s.nodes[no] = wrong
		if sum, e := node.Sum(y.f, wrong); e == api.OK {
			if was, _ := node.Sum(y.f, right); sum == was {
				continue // a clash
			}
		}
		if got := call(y); got != api.ErrBad {
			t.Fatalf("%v: %s is answered as %v", y.f, what, got)
		}
		y.s.nodes[no] = right
		y.kept = kept
	}
}

// Nodes whose digests are right, and which are wrong in themselves.
func TestNotBelieved(t *testing.T) {
	f := small()
	over := strings.Repeat("v", 129)
	left := func() *twig { return leafOf(11, "b=1", "d=2") }
	right := func() *twig { return leafOf(13, "r=5") }
	for _, c := range []struct {
		what string
		w    *twig
		want api.Errno // of what a call answers whose way it lies on; P12.2 does not ask for bounds
	}{
		{"a leaf of the room", sizedLeaf(12, "g", room(f)), api.OK},
		{"a leaf above the room", sizedLeaf(12, "g", room(f)+1), api.ErrBad},
		{"a value that is too long", leafOf(12, "g="+over), api.ErrBad},
		{"keys that fall", leafOf(12, "h=1", "g=1"), api.ErrBad},
		{"a key without bytes", leafOf(12, "=1", "g=1"), api.ErrBad},
		{"a branch of one kid", branchOf(12, leafOf(14, "g=1")), api.ErrBad},
		{"a separator too few", &twig{no: 12, kids: []*twig{leafOf(14, "g=1"), leafOf(15, "h=1")}}, api.ErrBad},
		{"separators that fall", branchOf(12, leafOf(14, "g=1"), "i", leafOf(15, "h=1"), "h", leafOf(16, "h=1")), api.ErrBad},
	} {
		for _, w := range []*twig{c.w, branchOf(30, left(), "f", c.w, "p", right())} {
			s, root := laid(f, w)
			// A node that has no digest is named by the one of no bytes: so it is for itself that it is refused.
			y := newTrial(t, f, s, root)
			if e := y.put("g999", "new"); e != c.want {
				t.Errorf("%s: Put: %v", c.what, e)
			}
			if e := y.remove("g999"); e != c.want {
				t.Errorf("%s: Delete: %v", c.what, e)
			}
		}
	}
}

// Neighbours that are not of a tree that is well formed: where layer 8 refuses them, ErrBad is answered; and what can be done is done.
func TestNeighboursThatDoNotFit(t *testing.T) {
	f := small()
	leaf := func(no uint32, begin string) *twig { return sizedLeaf(no, begin, least(f)) }
	branch := func(no uint32, begin string) *twig { return sizedBranch(f, no, begin, least(f)) }
	thin := func(no uint32) *twig { return leafOf(no, "m=1", "n=2") }
	for _, c := range []struct {
		what string
		w    *twig
		want api.Errno
	}{
		{"a leaf to the left", branchOf(30, leaf(11, "b"), "m", thin(12), "p", leaf(13, "r")), api.OK},
		{"a leaf to the right", branchOf(30, thin(12), "p", leaf(13, "r"), "s", leaf(14, "t")), api.OK},
		{"a thin one to the left", branchOf(30, leafOf(11, "b=1"), "m", thin(12), "p", leaf(13, "r")), api.OK},
		{"an empty one to the left", branchOf(30, leafOf(11), "m", thin(12), "p", leaf(13, "r")), api.OK},
		{"an empty one to the right", branchOf(30, thin(12), "p", leafOf(13)), api.OK},
		{"a leaf to the left with keys above the separator", branchOf(30, leaf(11, "x"), "m", thin(12), "p", leaf(13, "r")), api.ErrBad},
		{"a leaf to the left with the separator as a key", branchOf(30, leafOf(11, "a=1", "m=1"), "m", thin(12), "p", leaf(13, "r")), api.ErrBad},
		{"a leaf to the right with keys below the separator", branchOf(30, thin(12), "p", leaf(13, "b")), api.ErrBad},
		{"a leaf to the right that has the separator as a key", branchOf(30, thin(12), "r", leafOf(13, "r=1", "s=1")), api.OK},
		{"keys below the separator in the leaf itself", branchOf(30, leaf(11, "b"), "mm", leafOf(12, "m=1", "mm=1", "n=2"), "p", leaf(13, "r")), api.ErrBad},
		{"a branch to the left", branchOf(30, branch(11, "b"), "m", thin(12), "p", leaf(13, "r")), api.ErrBad},
		{"a branch to the right", branchOf(30, thin(12), "p", branch(13, "r")), api.ErrBad},
		{"two alone in a branch that is not the root", branchOf(40, branchOf(30, thin(12), "p", leaf(13, "r")), "t", branch(41, "u"), "y", branch(42, "z")), api.OK},
		{"two alone in a branch that is not the root, thin together", branchOf(40, branchOf(30, thin(12), "p", leafOf(13, "r=1")), "t", branch(41, "u"), "y", branch(42, "z")), api.ErrBad},
		{"two alone in a branch that is not the root, thin together, with a leaf beside it", branchOf(40, branchOf(30, thin(12), "p", leafOf(13, "r=1")), "t", leaf(41, "u"), "y", branch(42, "z")), api.OK},
		{"a thin branch with one that has separators above", branchOf(40, branch(41, "z"), "b", branchOf(30, leaf(11, "c"), "m", thin(12), "p", leaf(13, "r")), "t", branch(42, "z")), api.ErrBad},
		{"a thin branch with a leaf beside it", branchOf(40, leaf(41, "a"), "b", branchOf(30, leaf(11, "c"), "m", thin(12), "p", leaf(13, "r")), "t", branch(42, "z")), api.ErrBad},
	} {
		for _, call := range []func(y *trial) api.Errno{
			func(y *trial) api.Errno { return y.remove("n") },
			func(y *trial) api.Errno { return y.put("n", "other") },
			func(y *trial) api.Errno { return y.put("nn", "other") },
		} {
			if e := call(bareTrial(t, f, c.w)); e != c.want {
				t.Errorf("%s: %v", c.what, e)
			}
		}
	}
}

// A leaf whose keys are not between the separators above it, and that is cut: where what separates its halves does not stand between those, ErrBad is answered.
func TestHalvesThatDoNotFit(t *testing.T) {
	f := small()
	for begin, want := range map[string]api.Errno{"m": api.OK, "b": api.ErrBad, "x": api.ErrBad} {
		w := branchOf(30, sizedLeaf(11, "b", least(f)), "m", sizedLeaf(12, begin, room(f)), "p", sizedLeaf(13, "r", least(f)))
		y := bareTrial(t, f, w)
		if e := y.put("mm", "other"); e != want {
			t.Errorf("%s: %v", begin, e)
		}
		if want == api.ErrBad && y.x.Root() != y.x.Base() {
			t.Error(begin, y.x.Root())
		}
	}
}

// A base whose branch names a kid by a number of dirty nodes is none: the number may be given to a node that is made, and the branch would hang from itself. Calls end, and answer an error.
func TestKidsWithNumbersOfDirtyNodes(t *testing.T) {
	f := small()
	for _, no := range []uint32{dirty, dirty + 1, dirty + 2, dirty + 3, dirty + 9, math.MaxUint32} {
		w := branchOf(30, sizedLeaf(11, "b", least(f)), "m", sizedLeaf(no, "n", least(f)), "t", sizedLeaf(13, "v", least(f)))
		s, root := laid(f, w)
		x := edit(t, f, s, root)
		for _, key := range []string{"b000", "n000", "v000", "a", "p", "z"} {
			if had, e := x.Put(key, "other"); had || e != api.ErrBad {
				t.Error(no, key, had, e)
			}
			if had, e := x.Delete(key); had || e != api.ErrBad {
				t.Error(no, key, had, e)
			}
		}
		if x.Root() != root || x.Changed() != 0 || len(x.Freed()) != 0 {
			t.Error(no, x.Root(), x.Changed(), x.Freed())
		}
		if l, r, e := x.Lay(1, nil); len(l) != 0 || r != root || e != api.OK {
			t.Error(no, l, r, e)
		}
	}
}

// Where a kid of the base's lies on no page that can be, a branch that names it can't be laid. (Of such a base nothing is promised but that calls end, and that nothing is answered beside an error.)
func TestLayOfKidsOnNoPage(t *testing.T) {
	f := small()
	for _, no := range []uint32{0, 1} {
		w := branchOf(30, sizedLeaf(11, "b", least(f)+200), "m", sizedLeaf(no, "n", least(f)))
		s, root := laid(f, w)
		x := edit(t, f, s, root)
		if had, e := x.Put("b000", "other"); !had || e != api.OK {
			t.Fatal(no, had, e)
		}
		if l, r, e := x.Lay(1, []uint32{2, 3}); l != nil || r != (api.Root{}) || e != api.ErrBad {
			t.Error(no, l, r, e)
		}
	}
}

// fickle is a source that tells by turns what several others tell.
type fickle struct {
	wells []*well
	asked int
}

func (s *fickle) Node(no uint32) (api.Node, api.Errno) {
	s.asked++
	return s.wells[s.asked%len(s.wells)].Node(no)
}

// Bases of every wrong kind by chance: with spoilt nodes, nodes in each other's place, numbers that stand twice, a Count that is not theirs. Each call is held against the rule; what is there ends.
func TestSpoiltBases(t *testing.T) {
	for i, f := range []api.Frame{{Page: 1024, Width: 1}, {Page: 1024, Width: 2}, {Page: 2048, Width: 32}} {
		t.Run(fmt.Sprint(f), func(t *testing.T) {
			t.Parallel()
			r := rand.New(rand.NewSource(int64(700 + i)))
			seen := map[api.Errno]int{}
			for range 60 {
				w := grownTo(t, r, f, 1+r.Intn(3))
				s, root := spoilt(r, f, w)
				y := newTrial(t, f, s, root)
				y.seen = seen
				keys := pairsOf(w)
				for range 25 {
					key := keys[r.Intn(len(keys))].Key
					if r.Intn(2) == 0 {
						y.remove(key)
					} else {
						y.put(key, strings.Repeat("w", r.Intn(f.Page/8+1)))
					}
				}
				ends(t, y)
			}
			for _, e := range []api.Errno{api.OK, api.ErrBad, api.ErrIO} {
				if seen[e] < 20 {
					t.Errorf("too few calls were answered by %v: %v", e, seen)
				}
			}
		})
	}
}

// ends makes all calls that a tree which is not well formed may be asked.
func ends(t *testing.T, y *trial) {
	t.Helper()
	if tree, e := y.x.Tree(); e == api.OK {
		tree.Shape()
	}
	var at []uint32
	for i := range y.x.Changed() {
		at = append(at, uint32(i+2))
	}
	if l, _, e := y.x.Lay(1, at); e == api.OK && len(l) != len(at) {
		t.Errorf("%v: %d pages for %d nodes", y.f, len(l), len(at))
	}
	y.copied()
}

// spoilt is a tree in a well in which something is wrong.
func spoilt(r *rand.Rand, f api.Frame, w *twig) (*well, api.Root) {
	var all []*twig
	nodesOf(w, func(w *twig) { all = append(all, w) })
	some := func() *twig { return all[r.Intn(len(all))] }
	for range r.Intn(3) {
		if x := some(); len(x.kids) > 0 {
			x.kids = slices.Clone(x.kids)
			switch i := r.Intn(len(x.kids)); r.Intn(3) {
			case 0:
				x.kids[i] = x.kids[0] // the same node twice
			case 1:
				x.kids[i] = leafOf(6000, "k=1")
			case 2:
				x.seps = slices.Clone(x.seps)
				x.seps[r.Intn(len(x.seps))] = textOf(r, 4)
			}
		} else {
			x.pairs = slices.Clone(x.pairs)
			x.pairs[r.Intn(len(x.pairs))].Key = textOf(r, 4)
		}
	}
	s, root := laid(f, w)
	switch no := some().no; r.Intn(5) {
	case 0:
		s.errs[no] = api.ErrIO
	case 1:
		s.nodes[no] = s.nodes[some().no]
	case 2:
		root.Count = []uint64{1, root.Count + 1, math.MaxUint64}[r.Intn(3)]
	}
	return s, root
}

// A source that does not answer alike each time: calls end, and what is answered by an error has changed nothing.
func TestFickleSources(t *testing.T) {
	f := api.Frame{Page: 1024, Width: 1}
	r := rand.New(rand.NewSource(17))
	for range 40 {
		w := grownTo(t, r, f, 3)
		one, root := laid(f, w)
		two, _ := spoilt(r, f, grown(r, f, pairsOf(w), counter(r)))
		for no, n := range one.nodes {
			if _, has := two.nodes[no]; !has || r.Intn(2) == 0 {
				two.nodes[no] = n
			}
		}
		x := edit(t, f, &fickle{wells: []*well{one, two}}, root)
		for range 40 {
			key := pairsOf(w)[r.Intn(len(pairsOf(w)))].Key
			was, changed, freed := x.Root(), x.Changed(), x.Freed()
			_, e := x.Put(key, strings.Repeat("w", r.Intn(f.Page/8+1)))
			if r.Intn(2) == 0 && e != api.OK {
				_, e = x.Delete(key)
			}
			if e != api.OK && (x.Root() != was || x.Changed() != changed || !slices.Equal(x.Freed(), freed)) {
				t.Fatal("an error has changed something:", e)
			}
		}
		var at []uint32
		for i := range x.Changed() {
			at = append(at, uint32(i+2))
		}
		x.Lay(1, at)
		if tree, e := x.Tree(); e == api.OK {
			tree.Pages()
		}
	}
}
