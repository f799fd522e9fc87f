package growth_test

import (
	"fmt"
	"math/rand"
	"slices"
	"strings"
	"testing"

	"heartwood/api"
	"heartwood/node"
)

// The empty tree at every call.
func TestTheEmptyTree(t *testing.T) {
	for _, f := range frames() {
		y := trialOf(t, f, nil)
		for range 2 {
			for _, key := range []string{"a", "\x00", strings.Repeat("\xff", f.Page/16)} {
				if e := y.remove(key); e != api.OK || len(y.s.asked) > 0 {
					t.Error(f, e, y.s.asked)
				}
			}
			y.plain()
			if l, root := y.lay(1, nil); len(l) != 0 || root != emptyRoot(f) {
				t.Error(f, len(l), root)
			}
			y.copied().plain()
			if e := y.put("a", ""); e != api.OK || y.x.Changed() != 1 || len(y.x.Freed()) != 0 || y.x.Root().Count != 1 || y.x.Root().Version != 0 {
				t.Error(f, e, y.x.Changed(), y.x.Root())
			}
			y.plain()
			y.remove("a")
			if y.x.Root() != emptyRoot(f) || y.x.Base() != emptyRoot(f) || y.x.Changed() != 0 {
				t.Error(f, y.x.Root())
			}
		}
	}
}

// A base of one leaf: its pairs are taken away one by one, from the first on, from the last on; the tree that is empty then has freed it, and is no more what it was when pairs are laid again.
func TestToEmptyAndBack(t *testing.T) {
	for _, f := range frames() {
		for _, fromLast := range []bool{false, true} {
			w := leafOf(7, "b=1", "d=2", "f=3")
			y := trialOf(t, f, w)
			keys := []string{"b", "d", "f"}
			if fromLast {
				slices.Reverse(keys)
			}
			for i, key := range keys {
				y.remove(key)
				if !slices.Equal(y.x.Freed(), []uint32{7}) || y.x.Root().Count != uint64(2-i) || y.x.Root().Version != 0 {
					t.Error(f, y.x.Freed(), y.x.Root())
				}
				y.plain()
			}
			if y.x.Root() != emptyRoot(f) || y.x.Changed() != 0 || y.x.Base().Page != 7 {
				t.Error(f, y.x.Root(), y.x.Changed())
			}
			if l, root := y.lay(9, nil); len(l) != 0 || root != emptyRoot(f) {
				t.Error(f, len(l), root)
			}
			for _, p := range w.pairs {
				y.put(p.Key, p.Val)
			}
			if r := y.x.Root(); r.Sum != y.x.Base().Sum || r.Page < dirty || r.Version != 0 || r.Count != 3 || y.x.Changed() != 1 || !slices.Equal(y.x.Freed(), []uint32{7}) {
				t.Error(f, r, y.x.Changed(), y.x.Freed())
			}
			y.plain()
		}
	}
}

// A base of one pair: where it goes, the tree is empty at once, and has nothing of the base's root.
func TestTheOnlyPairTakenAway(t *testing.T) {
	for _, f := range frames() {
		y := trialOf(t, f, leafOf(7, "b=1"))
		y.remove("b")
		if y.x.Root() != emptyRoot(f) || y.x.Changed() != 0 || !slices.Equal(y.x.Freed(), []uint32{7}) || y.x.Base().Version != 3 {
			t.Error(f, y.x.Root(), y.x.Changed(), y.x.Freed(), y.x.Base())
		}
		if l, root := y.lay(9, nil); len(l) != 0 || root != emptyRoot(f) {
			t.Error(f, len(l), root)
		}
		y.plain()
	}
}

// What changes no pair leaves all as it is, in a clean tree and in one that is changed already; the way is read all the same, where it is on no dirty nodes.
func TestWhatChangesNothing(t *testing.T) {
	t.Parallel()
	for _, f := range frames() {
		r := rand.New(rand.NewSource(11))
		for _, levels := range []int{1, 2, 3} {
			w := grownTo(t, r, f, levels)
			y := trialOf(t, f, w)
			for i := range 3 {
				for _, key := range y.keys() {
					was := y.state()
					y.put(key, y.pairs[key])
					if i == 0 && len(y.due.asked) != levels {
						t.Fatal(f, levels, y.due.asked)
					}
					other := key[:len(key)-1]
					if _, is := y.pairs[other]; !is && other != "" {
						y.remove(other)
					}
					if !y.state().same(was) {
						t.Fatal(f, levels, "changed")
					}
				}
				root := y.x.Root()
				if clean := y.x.Changed() == 0; clean && root != y.x.Base() || !clean && root.Version != 0 {
					t.Error(f, root)
				}
				y.step(r, 9)
			}
			y.plain()
		}
	}
}

// fitted is a twig with other kids in the place of some of its bare ones.
func fitted(w *twig, at int, kids ...*twig) *twig {
	copy(w.kids[at:], kids)
	return w
}

// lastOf is a leaf's last pair.
func lastOf(w *twig) api.Pair { return w.pairs[len(w.pairs)-1] }

// A root that is a leaf is cut just when it is larger than the room, by one byte, be it by a pair more or by a longer value.
func TestARootThatIsCut(t *testing.T) {
	for _, f := range frames() {
		for _, size := range []int{room(f) - 1, room(f)} {
			w := sizedLeaf(7, "k", size)
			y := trialOf(t, f, w)
			last := lastOf(w)
			for y.x.Changed() < 3 {
				last.Val += "w"
				size++
				y.put(last.Key, last.Val)
				y.plain()
				if cut := size > room(f); cut != (y.x.Changed() == 3) || !cut && y.x.Changed() != 1 {
					t.Fatalf("%v: %d nodes are changed at a size of %d", f, y.x.Changed(), size)
				}
			}
			if !slices.Equal(y.x.Freed(), []uint32{7}) {
				t.Error(f, y.x.Freed())
			}
			// Made one again, when the byte goes: no leaf is thin, so both stay. When one of them is thin, they are one.
			y.put(last.Key, last.Val[1:])
			if y.x.Changed() != 3 {
				t.Error(f, y.x.Changed())
			}
			for _, p := range w.pairs {
				if y.remove(p.Key); y.x.Changed() == 1 {
					break
				}
			}
			y.plain()
			if y.x.Changed() != 1 {
				t.Error(f, "the root is not made one again")
			}
		}
		// A pair of the least size: the key of a byte, no value.
		for _, size := range []int{room(f) - 3, room(f) - 2} {
			y := trialOf(t, f, sizedLeaf(7, "k", size))
			y.put("a", "")
			if want := 1 + 2*(size-room(f)+3); y.x.Changed() != want {
				t.Errorf("%v: a pair of 3 bytes in a leaf of %d: %d nodes are changed", f, size, y.x.Changed())
			}
			y.plain()
		}
	}
}

// under is a branch of leaves, each of a size, with the keys a.., b.., and so on, numbered from 11 on, under the root 10.
func under(sizes ...int) *twig {
	w := &twig{no: 10}
	for i, size := range sizes {
		begin := string(rune('a' + i))
		w.kids = append(w.kids, sizedLeaf(uint32(11+i), begin, size))
		if i > 0 {
			w.seps = append(w.seps, begin)
		}
	}
	return w
}

// A leaf below a branch: cut when it is full by one byte, with its neighbours left where they lie.
func TestALeafThatIsCut(t *testing.T) {
	for _, f := range frames() {
		for at := range 3 {
			w := under(least(f), least(f), least(f))
			w.kids[at] = sizedLeaf(uint32(11+at), string(rune('a'+at)), room(f)-1)
			y := trialOf(t, f, w)
			last := lastOf(w.kids[at])
			for i, want := range []int{2, 3, 3} {
				y.put(last.Key, last.Val+strings.Repeat("w", i+1))
				freed := []uint32{10, uint32(11 + at)}
				if y.x.Changed() != want || !slices.Equal(y.x.Freed(), freed) {
					t.Errorf("%v: the leaf %d, %d bytes more: %d are changed, %v freed", f, at, i+1, y.x.Changed(), y.x.Freed())
				}
				y.plain()
			}
		}
	}
}

// A leaf below a branch that is thin by one byte: its neighbour to the left is read, to the right where it is the first; the two are cut anew where they are more than one page, and made one where they are not.
func TestALeafThatIsThin(t *testing.T) {
	for _, f := range frames() {
		for at := range 3 {
			beside := max(0, at-1)
			if at == 0 {
				beside = 1
			}
			for _, more := range []int{0, 1} {
				// Of leaves made one, the size is that of both less the two bytes ahead of the pairs.
				sizes := []int{least(f), least(f), least(f)}
				sizes[beside] = room(f) + more - (least(f) - 1) + 2
				w := under(sizes...)
				y := trialOf(t, f, w)
				last := lastOf(w.kids[at])
				y.put(last.Key, strings.Repeat("w", len(last.Val))) // not thin
				if y.x.Changed() != 2 || !slices.Equal(y.due.asked, []uint32{10, uint32(11 + at)}) {
					t.Errorf("%v: the leaf %d of the least: %d are changed, %v read", f, at, y.x.Changed(), y.due.asked)
				}
				y.put(last.Key, last.Val[1:])
				if !slices.Equal(y.due.asked, []uint32{uint32(11 + beside)}) {
					t.Errorf("%v: the leaf %d that is thin: read are %v", f, at, y.due.asked)
				}
				freed := []uint32{10, uint32(11 + at), uint32(11 + beside)}
				slices.Sort(freed)
				if y.x.Changed() != 2+more || !slices.Equal(y.x.Freed(), freed) {
					t.Errorf("%v: the leaf %d that is thin, %d more than the room: %d are changed, %v freed", f, at, more, y.x.Changed(), y.x.Freed())
				}
				y.plain()
			}
		}
	}
}

// Where what is read in one call is told outright: the way, from the root down, then the neighbour.
func TestWhatIsReadInOneCall(t *testing.T) {
	f := api.Frame{Page: 1024, Width: 32}
	for at := range 3 {
		w := under(least(f), least(f), least(f))
		key := w.kids[at].pairs[0].Key
		y := trialOf(t, f, w)
		y.remove(key)
		if want := []uint32{10, uint32(11 + at), []uint32{12, 11, 12}[at]}; !slices.Equal(y.due.asked, want) {
			t.Error(at, y.due.asked, want)
		}
		// What is dirty by now is at hand.
		y.remove(w.kids[at].pairs[1].Key)
		if len(y.due.asked) > 1 {
			t.Error(at, y.due.asked)
		}
		y.plain()
	}
}

// Two kids made one under a root that has no other: this one is the root.
func TestTwoMadeOne(t *testing.T) {
	for _, f := range frames() {
		for at := range 2 {
			w := under(least(f), least(f))
			y := trialOf(t, f, w)
			p := lastOf(w.kids[at])
			y.put(p.Key, p.Val[1:])
			if y.x.Changed() != 1 || !slices.Equal(y.x.Freed(), []uint32{10, 11, 12}) || y.x.Root().Version != 0 {
				t.Errorf("%v: the leaf %d: %d are changed, %v freed", f, at, y.x.Changed(), y.x.Freed())
			}
			if n, e := y.x.Node(y.x.Root().Page); e != api.OK || !slices.Equal(node.Copy(n).Pairs, y.due.root.pairs) {
				t.Error(f, e)
			}
			y.plain()
			// Where both are more than a page's room, there are two again.
			w = under(room(f), room(f))
			w.kids[at] = sizedLeaf(uint32(11+at), string(rune('a'+at)), least(f))
			y = trialOf(t, f, w)
			p = lastOf(w.kids[at])
			y.put(p.Key, p.Val[1:])
			if y.x.Changed() != 3 || !slices.Equal(y.x.Freed(), []uint32{10, 11, 12}) {
				t.Errorf("%v: the leaf %d: %d are changed, %v freed", f, at, y.x.Changed(), y.x.Freed())
			}
			y.plain()
		}
	}
}

// A branch gets a kid more: it is cut just when it is full by one byte. It is the root, or hangs from it.
func TestABranchThatIsCut(t *testing.T) {
	t.Parallel()
	for _, f := range frames() {
		for _, isRoot := range []bool{true, false} {
			for more := range 2 {
				// The kid 1 lies between the separators k000s.. and k001s..: its keys begin with k000t, and have eight bytes. So the separator between its halves has that many, too.
				leaf := sizedLeaf(7, "k000t", room(f))
				sized := sizedBranch(f, 20, "k", room(f)+more-(4+f.Width+1+8))
				w := fitted(sized, 1, leaf)
				if !isRoot {
					w = branchOf(30, w, "m", &twig{no: 31, bare: true}, "q", &twig{no: 32, bare: true})
				}
				y := bareTrial(t, f, w)
				p := lastOf(leaf)
				if e := y.put(p.Key, p.Val+"w"); e != api.OK {
					t.Fatal(f, isRoot, more, e)
				}
				// Two leaves, the branch or its halves, and what is above.
				want := 2 + 1 + more
				freed := []uint32{7, 20}
				if !isRoot || more > 0 {
					want++
				}
				if !isRoot {
					freed = []uint32{7, 20, 30}
				}
				if y.x.Changed() != want || !slices.Equal(y.x.Freed(), freed) {
					t.Errorf("%v: root %v, more %d: %d are changed, %v freed", f, isRoot, more, y.x.Changed(), y.x.Freed())
				}
				if got := sizesOf(y); more == 0 && !slices.Contains(got, room(f)) {
					t.Errorf("%v: no node is as large as the room: %v", f, got)
				}
			}
		}
	}
}

// sizesOf are the sizes of the dirty nodes.
func sizesOf(y *trial) []int {
	var l []int
	for no := range y.names {
		if n, e := y.x.Node(no); e == api.OK {
			l = append(l, node.Size(y.f, n))
		}
	}
	return l
}

// A branch loses a kid: it is mended just when it is thin by one byte, with the neighbour to the left, to the right where it is the first, and the two are made one or cut anew.
func TestABranchThatIsThin(t *testing.T) {
	t.Parallel()
	for _, f := range frames() {
		for at := range 2 {
			for less := range 2 {
				for _, large := range []bool{false, true} {
					w, key := thinning(f, at, less, large)
					y := bareTrial(t, f, w)
					if e := y.remove(key); e != api.OK {
						t.Fatal(f, at, less, e)
					}
					asked := []uint32{30, 20, 8, 7}
					want := 3 // one leaf of two, the branch, the root
					if less > 0 {
						asked = append(asked, 40)
						if want = 4; !large {
							want = 3 // both branches are one, under a root that has others
						}
					}
					if !slices.Equal(y.due.asked, asked) || y.x.Changed() != want || len(y.x.Freed()) != len(asked) {
						t.Errorf("%v: at %d, less %d, large %v: read are %v, %d are changed, %v freed", f, at, less, large, y.due.asked, y.x.Changed(), y.x.Freed())
					}
					if got := sizesOf(y); less == 0 && !slices.Contains(got, least(f)) {
						t.Errorf("%v: no node is of the least: %v", f, got)
					}
				}
			}
		}
	}
}

// thinning is a tree of three levels in which the branch 20 stands at a place under the root 30, with the branch 40 beside it, and loses by the Delete of a key the separator between its kids 7 and 8, so that it is of the least, or less than that.
func thinning(f api.Frame, at, less int, large bool) (*twig, string) {
	begin := []string{"k", "p"}
	other := sizedBranch(f, 40, begin[1-at], least(f)+10)
	if large {
		other = sizedBranch(f, 40, begin[1-at], room(f)-10)
	}
	// The branch as it is to be then, with two leaves, and the separator x000 between them, in the place of its first kid.
	b := sizedBranch(f, 20, begin[at], least(f)-less)
	left, right := sizedLeaf(7, begin[at]+"!", least(f)), sizedLeaf(8, begin[at]+"000a", least(f))
	b.kids = slices.Concat([]*twig{left, right}, b.kids[1:])
	b.seps = slices.Concat([]string{begin[at] + "000"}, b.seps)
	kids := []*twig{b, other}
	if at == 1 {
		kids = []*twig{other, b}
	}
	return branchOf(30, kids[0], "m", kids[1], "u", &twig{no: 31, bare: true}), right.pairs[0].Key
}

// link is a branch of a size that stands so many levels above the leaf of a chain. Of its separators the first one is below all keys and separators under its kid 1, and the second one above them.
func link(f api.Frame, above, size int) *twig {
	w := sizedBranch(f, uint32(20+above), fmt.Sprintf("z%02d", above), size)
	first := fmt.Sprintf("a%02d", 90-above)
	w.seps[0] = first + strings.Repeat("s", len(w.seps[0])-len(first))
	return w
}

// chain is a tree of so many levels of which there is one way down, to the leaf 7; all else is bare. Each branch is of a size, and the way goes on at its kid 1. The leaf's keys are k and three digits.
func chain(f api.Frame, levels, branch, leaf int) *twig {
	w := sizedLeaf(7, "k", leaf)
	for above := 1; above < levels; above++ {
		w = fitted(link(f, above, branch), 1, w)
	}
	return w
}

// What lies on the level 33 is read, what lies deeper is not to be believed; an error of the source's own goes ahead.
func TestDepth(t *testing.T) {
	f := api.Frame{Page: 1024, Width: 32}
	for _, levels := range []int{1, 2, 32, 33, 34, 35, 40} {
		w := chain(f, levels, 2*least(f), 2*least(f))
		want := api.OK
		if levels > 33 {
			want = api.ErrBad
		}
		y := bareTrial(t, f, w)
		for i := range 3 {
			if e := y.put(fmt.Sprintf("k%03d", i), "new"); e != want {
				t.Errorf("%d levels: Put: %v", levels, e)
			}
			if e := y.remove(fmt.Sprintf("k%03dx", i)); e != want {
				t.Errorf("%d levels: Delete: %v", levels, e)
			}
		}
		if want == api.OK && y.x.Changed() != levels {
			t.Errorf("%d levels: %d are changed", levels, y.x.Changed())
		}
		// The node on the level 34, which is read in vain.
		y = bareTrial(t, f, w)
		deep := w
		for range min(levels, 34) - 1 {
			deep = deep.kids[1]
		}
		y.s.errs[deep.no] = api.ErrIO
		if e := y.put("k000", "new"); e != api.ErrIO {
			t.Errorf("%d levels: %v", levels, e)
		}
	}
}

// As much is made anew as ever can be: each node on the way is cut. The tree has a level more then.
func TestEachLevelIsCut(t *testing.T) {
	for _, f := range []api.Frame{{Page: 1024, Width: 32}, {Page: 1024, Width: 1}, {Page: 8192, Width: 32}} {
		for _, levels := range []int{1, 2, 3, 10, 33} {
			y := bareTrial(t, f, chain(f, levels, room(f), room(f)))
			if e := y.put("k000x", strings.Repeat("v", 100)); e != api.OK {
				t.Fatal(f, levels, e)
			}
			if y.x.Changed() != 2*levels+1 || len(y.x.Freed()) != levels {
				t.Errorf("%v: %d levels: %d are changed, %v freed", f, levels, y.x.Changed(), y.x.Freed())
			}
			want := api.OK
			if levels == 33 {
				want = api.ErrBad // what is dirty lies too deep now, too
			}
			if e := y.put("k000x", "other"); e != want {
				t.Errorf("%v: %d levels and one: %v", f, levels, e)
			}
			if e := y.remove("k000x"); e != want {
				t.Errorf("%v: %d levels and one: %v", f, levels, e)
			}
		}
	}
}

// Each node on the way is thin, and made one with its neighbour. The root has two kids, or more than these.
func TestEachLevelIsMadeOne(t *testing.T) {
	for _, f := range []api.Frame{{Page: 1024, Width: 32}, {Page: 1024, Width: 1}, {Page: 8192, Width: 32}} {
		for _, levels := range []int{2, 3, 10, 33} {
			for _, two := range []bool{false, true} {
				w := sizedLeaf(7, "k", least(f))
				neighbour := sizedLeaf(8, "D", least(f))
				for above := 1; above < levels; above++ {
					w = fitted(link(f, above, least(f)), 0, neighbour, w)
					neighbour = sizedBranch(f, uint32(60+above), "D", least(f))
				}
				if two {
					w.kids, w.seps = w.kids[:2], w.seps[:1]
				}
				y := bareTrial(t, f, w)
				if e := y.remove("k000"); e != api.OK {
					t.Fatal(f, levels, e)
				}
				want := levels
				if two {
					want-- // what the two kids have become is the root
				}
				if y.x.Changed() != want || len(y.x.Freed()) != 2*levels-1 || len(y.due.asked) != 2*levels-1 {
					t.Errorf("%v: %d levels: %d are changed, %v freed, %v read", f, levels, y.x.Changed(), y.x.Freed(), y.due.asked)
				}
			}
		}
	}
}
