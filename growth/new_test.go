package growth_test

import (
	"math"
	"math/rand"
	"slices"
	"strings"
	"testing"

	"heartwood/api"
	"heartwood/growth"
	"heartwood/node"
	"heartwood/trunk"
)

// P12.1: frames that may not be are told ahead of all else, no source ahead of a root.
func TestNewOfWrongFramesAndNoSource(t *testing.T) {
	for _, f := range wrongFrames() {
		for _, r := range []api.Root{{}, emptyRoot(small()), {Page: 2, Count: 1, Version: 1}, {Page: 1}} {
			if x, e := growth.New(f, newWell(), r); x != nil || e != api.ErrArg {
				t.Error(f, r, x, e)
			}
			if x, e := growth.New(f, nil, r); x != nil || e != api.ErrArg {
				t.Error(f, r, "no source", x, e)
			}
		}
	}
	for _, f := range frames() {
		for _, r := range []api.Root{{}, emptyRoot(f), {Page: 2, Count: 1, Version: 1}, {Page: 1}, {Page: 2, Sum: api.Digest{31: 1}}} {
			if x, e := growth.New(f, nil, r); x != nil || e != api.ErrNil {
				t.Error(f, r, "no source", x, e)
			}
		}
	}
}

// P12.1 and P12.4: roots of every kind; what New takes is told again as it was handed in, and the source is not asked.
func TestNewOfRoots(t *testing.T) {
	for _, f := range frames() {
		sum := api.Digest{1}
		sum[f.Width-1] = 7
		right := api.Root{Page: 9, Sum: sum, Count: 5, Version: 3}
		with := func(change func(r *api.Root)) api.Root {
			r := right
			change(&r)
			return r
		}
		empty := emptyRoot(f)
		other := empty
		other.Sum[0]++
		for _, c := range []struct {
			what string
			r    api.Root
			may  bool
		}{
			{"the empty tree's", empty, true},
			{"the empty tree's with a Count", api.Root{Sum: empty.Sum, Count: 1}, false},
			{"the empty tree's with a Version", api.Root{Sum: empty.Sum, Version: 1}, false},
			{"the empty tree's with another Sum", other, false},
			{"the zero root", api.Root{}, empty.Sum == api.Digest{}},
			{"one on a page", right, true},
			{"with the Sum of the empty leaf", with(func(r *api.Root) { r.Sum = empty.Sum }), true},
			{"with no Sum", with(func(r *api.Root) { r.Sum = api.Digest{} }), true},
			{"the page 0", with(func(r *api.Root) { r.Page = 0 }), false},
			{"the page 0 and the empty leaf's Sum", with(func(r *api.Root) { r.Page, r.Sum = 0, empty.Sum }), false},
			{"the page 1", with(func(r *api.Root) { r.Page = 1 }), false},
			{"the page 2", with(func(r *api.Root) { r.Page = 2 }), true},
			{"the page 65536", with(func(r *api.Root) { r.Page = 65536 }), true},
			{"the last page", with(func(r *api.Root) { r.Page = dirty - 1 }), true},
			{"the first dirty number", with(func(r *api.Root) { r.Page = dirty }), false},
			{"the last number", with(func(r *api.Root) { r.Page = math.MaxUint32 }), false},
			{"no Count", with(func(r *api.Root) { r.Count = 0 }), false},
			{"the Count 1", with(func(r *api.Root) { r.Count = 1 }), true},
			{"the greatest Count", with(func(r *api.Root) { r.Count = math.MaxUint64 }), true},
			{"no Version", with(func(r *api.Root) { r.Version = 0 }), false},
			{"the Version 1", with(func(r *api.Root) { r.Version = 1 }), true},
			{"the last Version", with(func(r *api.Root) { r.Version = 1 << 40 }), true},
			{"a Version beyond", with(func(r *api.Root) { r.Version = 1<<40 + 1 }), false},
			{"the greatest Version", with(func(r *api.Root) { r.Version = math.MaxUint64 }), false},
			{"a Sum that is longer by a byte", with(func(r *api.Root) { r.Sum[min(31, f.Width)] = 1 }), f.Width == 32},
			{"a Sum of all bytes", with(func(r *api.Root) { r.Sum[31] = 1 }), f.Width == 32},
		} {
			s := newWell()
			x, e := growth.New(f, s, c.r)
			if len(s.asked) > 0 {
				t.Errorf("%v: %s: the source is asked for %v", f, c.what, s.asked)
			}
			if !c.may {
				if x != nil || e != api.ErrArg {
					t.Errorf("%v: %s: %v %v", f, c.what, x, e)
				}
				continue
			}
			if x == nil || e != api.OK || x.Base() != c.r || x.Root() != c.r || x.Frame() != f || x.Changed() != 0 || len(x.Freed()) != 0 {
				t.Errorf("%v: %s: %v", f, c.what, e)
			}
		}
	}
}

// gone are Edits that are not there: none, and one that neither New nor Copy made.
func gone() []*growth.Edit { return []*growth.Edit{nil, {}} }

func TestNoEdit(t *testing.T) {
	long := strings.Repeat("k", 9000)
	for _, x := range gone() {
		for _, key := range []string{"", "k", long} {
			for _, val := range []string{"", "v", long} {
				if had, e := x.Put(key, val); had || e != api.ErrNil {
					t.Error("Put", had, e)
				}
			}
			if had, e := x.Delete(key); had || e != api.ErrNil {
				t.Error("Delete", had, e)
			}
		}
		for _, no := range []uint32{0, 1, 2, dirty - 1, dirty, math.MaxUint32} {
			if n, e := x.Node(no); !node.Same(n, api.Node{}) || e != api.ErrNil {
				t.Error("Node", n, e)
			}
		}
		if x.Frame() != (api.Frame{}) || x.Base() != (api.Root{}) || x.Root() != (api.Root{}) || x.Changed() != 0 || len(x.Freed()) != 0 {
			t.Error(x.Frame(), x.Base(), x.Root(), x.Changed(), x.Freed())
		}
		if tree, e := x.Tree(); tree != nil || e != api.ErrNil {
			t.Error("Tree", tree, e)
		}
		for _, version := range []uint64{0, 1, math.MaxUint64} {
			for _, at := range [][]uint32{nil, {}, {2}, {0}} {
				if l, r, e := x.Lay(version, at); len(l) != 0 || r != (api.Root{}) || e != api.ErrNil {
					t.Error("Lay", l, r, e)
				}
			}
		}
		if c := x.Copy(); c != nil {
			t.Error("Copy", c)
		}
	}
	// A refused New is as none, too.
	x, _ := growth.New(small(), nil, emptyRoot(small()))
	if had, e := x.Put("k", "v"); had || e != api.ErrNil {
		t.Error("Put", had, e)
	}
}

// P12.2 and P12.3: keys and values at their limits, a byte beyond, and of no byte; in the empty tree, and in one of two levels. What is refused asks nothing of the source and changes nothing.
func TestLengths(t *testing.T) {
	t.Parallel()
	for _, f := range frames() {
		r := rand.New(rand.NewSource(5))
		for _, levels := range []int{0, 1, 2} {
			y := trialOf(t, f, grownTo(t, r, f, levels))
			for _, key := range []int{0, 1, 2, f.Page/16 - 1, f.Page / 16, f.Page/16 + 1, f.Page / 8, f.Page} {
				for _, val := range []int{0, 1, 127, 128, f.Page/8 - 1, f.Page / 8, f.Page/8 + 1, f.Page} {
					want := api.OK
					if key == 0 || key > f.Page/16 || val > f.Page/8 {
						want = api.ErrArg
					}
					if e := y.put(strings.Repeat("k", key), strings.Repeat("v", val)); e != want || e != api.OK && len(y.s.asked) > 0 {
						t.Errorf("%v: Put of %d and %d bytes: %v", f, key, val, e)
					}
				}
				want := api.OK
				if key == 0 || key > f.Page/16 {
					want = api.ErrArg
				}
				for range 2 {
					if e := y.remove(strings.Repeat("k", key)); e != want || e != api.OK && len(y.s.asked) > 0 {
						t.Errorf("%v: Delete of %d bytes: %v", f, key, e)
					}
				}
			}
			y.plain()
		}
	}
}

// P12.5: numbers below those of dirty nodes are the source's, in the empty tree too, and of nodes that are freed; all others are the dirty nodes' of the tree, and nobody's.
func TestNode(t *testing.T) {
	for _, f := range frames() {
		r := rand.New(rand.NewSource(6))
		w := grownTo(t, r, f, 2)
		s, root := laid(f, w)
		s.nodes[0], s.nodes[1] = leafOf1("zero"), leafOf1("one")
		s.nodes[dirty-1] = api.Node{Pairs: []api.Pair{{Key: "b"}, {Key: "a"}}, Seps: []string{"x"}} // it is not held against anything
		s.nodes[dirty], s.nodes[math.MaxUint32] = leafOf1("beyond"), leafOf1("beyond")
		s.nodes[w.kids[0].no+7000] = leafOf1("refused")
		s.errs[w.kids[0].no+7000] = api.ErrIO
		kept := s.kept()
		for _, root := range []api.Root{root, emptyRoot(f)} {
			x := edit(t, f, s, root)
			asks := func() {
				t.Helper()
				for _, no := range []uint32{0, 1, 2, w.no, w.kids[0].no, w.kids[1].no, w.kids[0].no + 7000, 70000, dirty - 1} {
					s.asked = nil
					n, e := x.Node(no)
					want, due := s.tells(no)
					if due != api.OK {
						want = api.Node{}
					}
					if !node.Same(n, want) || e != due || !slices.Equal(s.asked, []uint32{no}) {
						t.Fatalf("%v: Node(%d): %v %v, asked for %v", f, no, n, e, s.asked)
					}
					scribble(n)
				}
				if !kept() {
					t.Fatal("what Node answers is the source's own")
				}
			}
			none := func(numbers ...uint32) {
				t.Helper()
				for _, no := range numbers {
					s.asked = nil
					if n, e := x.Node(no); !node.Same(n, api.Node{}) || e != api.ErrArg || len(s.asked) > 0 {
						t.Fatalf("%v: Node(%d): %v %v, asked for %v", f, no, n, e, s.asked)
					}
				}
			}
			asks()
			none(dirty, dirty+1, math.MaxUint32)
			x.Put("k", "1")
			was := x.Root().Page
			asks()
			none(math.MaxUint32)
			if _, e := x.Node(was); e != api.OK {
				t.Error(f, "the root", was, e)
			}
			x.Put("k", "2")
			none(was, math.MaxUint32)
			asks()
		}
	}
}

// leafOf1 is the leaf of one key.
func leafOf1(key string) api.Node { return api.Node{Pairs: []api.Pair{{Key: key, Val: "1"}}} }

// An Edit is a source: trees, cursors and other Edits may stand on it.
func TestAnEditIsASource(t *testing.T) {
	f := small()
	r := rand.New(rand.NewSource(7))
	w := grownTo(t, r, f, 2)
	s, root := laid(f, w)
	x := edit(t, f, s, root)
	over := edit(t, f, x, root)
	key := w.kids[0].pairs[0].Key
	if had, e := over.Put(key, "new"); !had || e != api.OK || x.Changed() != 0 || over.Changed() != 2 {
		t.Error(had, e, x.Changed(), over.Changed())
	}
	var source trunk.Source = over
	tree, e := trunk.New(f, source, over.Root())
	if e != api.OK {
		t.Fatal(e)
	}
	if v, is, e := tree.Get(key); v != "new" || !is || e != api.OK {
		t.Error(v, is, e)
	}
	// The calls of a Tree that was answered ahead of a change end.
	for range 3 {
		old, _ := x.Tree()
		x.Put(key, strings.Repeat("newer", x.Changed()))
		for range old.Walk() {
		}
		old.Get(key)
		old.Floor(key)
		old.Ceil(key)
		old.Shape()
		old.Pages()
	}
}

// reuser is a source that tells each node out of the same lists: what it told last is written over.
type reuser struct {
	*well
	told api.Node
}

func (s *reuser) Node(no uint32) (api.Node, api.Errno) {
	n, e := s.well.Node(no)
	scribble(s.told)
	s.told = roomy(n)
	return s.told, e
}

func TestASourceThatWritesOverWhatItTold(t *testing.T) {
	for _, f := range []api.Frame{small(), {Page: 2048, Width: 32}} {
		r := rand.New(rand.NewSource(8))
		w := grownTo(t, r, f, 3)
		s, root := laid(f, w)
		x, y := edit(t, f, s, root), edit(t, f, &reuser{well: s}, root)
		for i, p := range pairsOf(w) {
			if i%3 > 0 {
				x.Delete(p.Key)
				y.Delete(p.Key)
			} else {
				x.Put(p.Key, "other")
				y.Put(p.Key, "other")
			}
			if x.Root() != y.Root() || x.Changed() != y.Changed() {
				t.Fatal(f, i, x.Root(), y.Root())
			}
		}
	}
}

// P12.7: what Lay refuses.
func TestLayRefuses(t *testing.T) {
	for _, f := range frames() {
		r := rand.New(rand.NewSource(9))
		for _, levels := range []int{0, 1, 2, 3} {
			y := trialOf(t, f, grownTo(t, r, f, levels))
			refused := func(what string, version uint64, at []uint32) {
				t.Helper()
				was, given := y.state(), slices.Clone(at)
				if l, root, e := y.x.Lay(version, at); l != nil || root != (api.Root{}) || e != api.ErrArg {
					t.Errorf("%v: %s: %d pages, %v, %v", f, what, len(l), root, e)
				}
				if !y.state().same(was) || !slices.Equal(at, given) {
					t.Errorf("%v: %s: something is changed", f, what)
				}
			}
			for range 3 {
				at := y.numbersFor(r, y.x.Changed())
				y.lay(1, at)
				y.lay(1<<40, at)
				for _, version := range []uint64{0, 1<<40 + 1, math.MaxUint64} {
					refused("a version", version, at)
				}
				refused("a number too many", 1, append(slices.Clone(at), 6000))
				refused("a version and numbers too many", 0, append(slices.Clone(at), 6000, 6000))
				if n := len(at); n > 0 {
					refused("none", 1, nil)
					refused("no version and none", 0, nil)
					refused("a number too few", 1, at[1:])
					refused("a number too few at the end", 1, at[:n-1])
					for i := range at {
						for _, no := range []uint32{0, 1, dirty, dirty + 1, math.MaxUint32} {
							l := slices.Clone(at)
							l[i] = no
							refused("a number that may not be", 1, l)
						}
						if i > 0 {
							l := slices.Clone(at)
							l[i] = l[r.Intn(i)]
							refused("two alike", 1, l)
						}
						l := slices.Clone(at)
						l[i] = dirty - 1
						y.lay(1, l)
						if l[i] = 2; !slices.Contains(at, 2) {
							y.lay(7, l)
						}
					}
				}
				for range 5 {
					y.step(r, 8)
				}
			}
		}
	}
}
