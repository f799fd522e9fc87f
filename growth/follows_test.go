package growth_test

import (
	"fmt"
	"maps"
	"math/rand"
	"slices"
	"strings"
	"testing"

	"heartwood/api"
	"heartwood/climb"
	"heartwood/growth"
	"heartwood/node"
	"heartwood/page"
	"heartwood/trunk"
)

// Scripts by chance, over bases of none to three levels, in all frames: each call is held against the rule, and the tree against a plain map.
func TestScripts(t *testing.T) {
	for i, f := range frames() {
		t.Run(fmt.Sprint(f), func(t *testing.T) {
			t.Parallel()
			r := rand.New(rand.NewSource(int64(100 + i)))
			for levels := range 4 {
				y := trialOf(t, f, grownTo(t, r, f, levels))
				for step := range 50 {
					y.step(r, 6)
					if step%7 == 0 {
						y.plain()
					}
				}
				y.plain()
				y.lay(1+uint64(levels), y.numbersFor(r, y.x.Changed()))
			}
		})
	}
}

// A tree is grown from nothing and taken away again, by rising keys, by falling keys, and in no order: it is well formed behind each call, has three levels or more in between, and none in the end.
func TestGrownAndTakenAway(t *testing.T) {
	for i, f := range []api.Frame{{Page: 1024, Width: 1}, {Page: 1024, Width: 32}, {Page: 2048, Width: 7}, {Page: 4096, Width: 32}, {Page: 8192, Width: 2}} {
		for order := range 3 {
			t.Run(fmt.Sprint(f, order), func(t *testing.T) {
				t.Parallel()
				r := rand.New(rand.NewSource(int64(200 + 3*i + order)))
				// Keys that begin alike have long separators between them: so branches have few kids.
				pairs := somePairs(r, f, 110, true)
				for i := range pairs {
					pairs[i].Key = strings.Repeat("a", f.Page/16-4) + fmt.Sprintf("%04d", 3*i)
				}
				y := trialOf(t, f, nil)
				arranged := func() {
					switch order {
					case 1:
						slices.Reverse(pairs)
					case 2:
						r.Shuffle(len(pairs), func(i, j int) { pairs[i], pairs[j] = pairs[j], pairs[i] })
					}
				}
				arranged()
				for _, p := range pairs {
					y.put(p.Key, strings.Repeat("v", f.Page/16+len(p.Val)/2))
					y.plain()
				}
				if levels := y.due.wayDown(pairs[0].Key); levels < 3 {
					t.Error("the tree has but", levels, "levels")
				}
				arranged()
				for _, p := range pairs {
					y.remove(p.Key)
					y.plain()
				}
				if y.x.Root() != emptyRoot(f) || y.x.Changed() != 0 || len(y.x.Freed()) != 0 {
					t.Error(y.x.Root(), y.x.Changed(), y.x.Freed())
				}
			})
		}
	}
}

// A base of three levels is taken away: all its nodes are freed in the end, and what is laid again is a tree of dirty nodes alone.
func TestABaseTakenAway(t *testing.T) {
	for i, f := range []api.Frame{{Page: 1024, Width: 2}, {Page: 2048, Width: 32}} {
		for order := range 3 {
			r := rand.New(rand.NewSource(int64(300 + 3*i + order)))
			w := grownTo(t, r, f, 3)
			y := trialOf(t, f, w)
			keys := y.keys()
			switch order {
			case 1:
				slices.Reverse(keys)
			case 2:
				r.Shuffle(len(keys), func(i, j int) { keys[i], keys[j] = keys[j], keys[i] })
			}
			for i, key := range keys {
				y.remove(key)
				if i%5 == 0 {
					y.plain()
				}
			}
			y.plain()
			if y.x.Root() != emptyRoot(f) || y.x.Changed() != 0 || !slices.Equal(y.x.Freed(), slices.Sorted(maps.Keys(y.s.nodes))) {
				t.Error(f, y.x.Root(), y.x.Changed(), y.x.Freed())
			}
			for _, p := range pairsOf(w) {
				y.put(p.Key, p.Val)
			}
			y.plain()
			y.committed(r, 4)
		}
	}
}

// What was laid is a base again, version by version: P12.13.
func TestCommitted(t *testing.T) {
	for i, f := range frames() {
		t.Run(fmt.Sprint(f), func(t *testing.T) {
			t.Parallel()
			r := rand.New(rand.NewSource(int64(400 + i)))
			y := trialOf(t, f, grownTo(t, r, f, i%4))
			for version := range 12 {
				more := []int{9, 9, 9, 7, 5, 2}[version%6]
				for range r.Intn(14) {
					y.step(r, more)
				}
				y = y.committed(r, uint64(version+4))
			}
		})
	}
}

// The same over a shelf of pages, with the pages' own forms, and cursors over the Edit's tree.
func TestOverPages(t *testing.T) {
	for _, f := range []api.Frame{{Page: 1024, Width: 32}, {Page: 4096, Width: 1}} {
		r := rand.New(rand.NewSource(12))
		root := emptyRoot(f)
		pairs := map[string]string{}
		shelf, e := page.NewShelf(f)
		if e != api.OK {
			t.Fatal(e)
		}
		for version := uint64(1); version < 20; version++ {
			source, e := trunk.Over(f, shelf)
			if e != api.OK {
				t.Fatal(e)
			}
			x := edit(t, f, source, root)
			for range 20 {
				key, val := textOf(r, f.Page/16), strings.Repeat("v", r.Intn(f.Page/8+1))
				if keys := slices.Sorted(maps.Keys(pairs)); len(keys) > 0 && r.Intn(2) == 0 {
					key = keys[r.Intn(len(keys))]
				}
				_, was := pairs[key]
				if r.Intn(3) == 0 {
					if had, e := x.Delete(key); had != was || e != api.OK {
						t.Fatal(had, e)
					}
					delete(pairs, key)
					continue
				}
				if had, e := x.Put(key, val); had != was || e != api.OK {
					t.Fatal(had, e)
				}
				pairs[key] = val
			}
			tree, e := x.Tree()
			if e != api.OK {
				t.Fatal(e)
			}
			told := map[string]string{}
			for p, e := range climb.Up(tree, "", "") {
				if e != api.OK {
					t.Fatal(e)
				}
				told[p.Key] = p.Val
			}
			if !maps.Equal(told, pairs) {
				t.Fatal(f, version, len(told), len(pairs))
			}
			// A page that is freed is not laid at once; each page has its own number.
			var at []uint32
			for range x.Changed() {
				at = append(at, uint32(version*1000)+uint32(len(at)))
			}
			pages, next, e := x.Lay(version, at)
			if e != api.OK {
				t.Fatal(e)
			}
			for _, p := range pages {
				if e := shelf.Lay(p); e != api.OK {
					t.Fatal(e)
				}
			}
			root = next
			got, _ := read(t, f, source, root)
			if !maps.Equal(got, pairs) || next.Sum != x.Root().Sum {
				t.Fatal(f, version, len(got), len(pairs))
			}
		}
	}
}

// P12.8: what is done to a copy, or to what it was copied from, is not seen in the other one.
func TestCopy(t *testing.T) {
	for i, f := range frames() {
		t.Run(fmt.Sprint(f), func(t *testing.T) {
			t.Parallel()
			r := rand.New(rand.NewSource(int64(500 + i)))
			all := []*trial{trialOf(t, f, grownTo(t, r, f, i%4))}
			for range 40 {
				y := all[r.Intn(len(all))]
				was := make([]state, len(all))
				for j, o := range all {
					was[j] = o.state()
				}
				y.step(r, 6)
				for j, o := range all {
					if o != y && !o.state().same(was[j]) {
						t.Fatal("what is done to one is seen in another one")
					}
				}
				if len(all) < 5 && r.Intn(4) == 0 {
					all = append(all, y.copied())
				}
			}
			for _, y := range all {
				y.whole()
				y.plain()
				y.lay(2, y.numbersFor(r, y.x.Changed()))
			}
		})
	}
}

// A copy stands for itself when what it was copied from is changed all over, and the other way round: to both the same is done, so that both give the same numbers to unlike nodes.
func TestCopiesThatGoApart(t *testing.T) {
	f := small()
	r := rand.New(rand.NewSource(13))
	y := trialOf(t, f, grownTo(t, r, f, 2))
	for range 5 {
		y.step(r, 9)
	}
	c := y.copied()
	for i, key := range y.keys() {
		y.put(key, fmt.Sprint("one ", i))
		c.put(key, fmt.Sprint("other ", i))
		if i%3 == 0 {
			c.remove(key)
		}
	}
	y.plain()
	c.plain()
	for _, key := range y.keys() {
		y.remove(key)
	}
	y.plain()
	c.plain()
}

// P12.14: the digest hangs on keys, values and separators alone: not on where the base lies, nor in which order pairs were put, where the shape is the same.
func TestDigest(t *testing.T) {
	for _, f := range frames() {
		r := rand.New(rand.NewSource(14))
		w := grownTo(t, r, f, 2)
		x := trialOf(t, f, w)
		no := uint32(20000)
		nodesOf(w, func(w *twig) { w.no = no; no++ })
		other := trialOf(t, f, w)
		for _, key := range x.keys() {
			x.put(key, "v")
			other.put(key, "v")
			a, b := x.x.Root(), other.x.Root()
			if a.Sum != b.Sum || a.Count != b.Count {
				t.Fatal(f, a, b)
			}
		}
		// A tree of one leaf has one digest, in whatever order its pairs came.
		one, back := trialOf(t, f, nil), trialOf(t, f, nil)
		for i := range 9 {
			one.put(fmt.Sprint(i), "v")
			back.put(fmt.Sprint(8-i), "v")
		}
		sum, e := node.Sum(f, api.Node{Pairs: one.due.root.pairs})
		if e != api.OK || one.x.Root().Sum != sum || back.x.Root().Sum != sum {
			t.Error(f, one.x.Root(), back.x.Root())
		}
	}
}

// What is answered is memory of its own: it may be written over.
func TestWhatIsAnsweredIsNew(t *testing.T) {
	for _, f := range []api.Frame{small(), {Page: 2048, Width: 32}} {
		r := rand.New(rand.NewSource(15))
		y := trialOf(t, f, grownTo(t, r, f, 3))
		for range 8 {
			y.step(r, 5)
		}
		freed := y.x.Freed()
		if len(freed) == 0 || y.x.Changed() == 0 {
			t.Fatal("nothing is changed")
		}
		clear(freed[:cap(freed)])
		at := y.numbersFor(r, y.x.Changed())
		pages, _, e := y.x.Lay(5, at)
		if e != api.OK {
			t.Fatal(e)
		}
		clear(at)
		if slices.ContainsFunc(pages, func(p api.Page) bool { return p.No == 0 }) {
			t.Error("pages hang on the numbers that were handed in")
		}
		clear(pages[:cap(pages)])
		for no := range y.names {
			if n, e := y.x.Node(no); e == api.OK {
				scribble(n)
			}
		}
		tree, _ := y.x.Tree()
		for spot := range tree.Walk() {
			scribble(spot.Node)
		}
		y.whole()
		y.plain()
		y.lay(5, y.numbersFor(r, y.x.Changed()))
	}
}

// change is what chapter 13 wants of a change.
type change interface {
	Base() api.Root
	Changed() int
	Freed() []uint32
	Lay(version uint64, at []uint32) ([]api.Page, api.Root, api.Errno)
}

func TestAnEditIsAChange(t *testing.T) {
	var c change = six(t)
	if c.Base() != emptyRoot(api.Frame{Page: 1024, Width: 32}) || c.Changed() != 3 || len(c.Freed()) != 0 {
		t.Error(c.Base(), c.Changed(), c.Freed())
	}
	var none *growth.Edit
	c = none
	if l, r, e := c.Lay(1, nil); l != nil || r != (api.Root{}) || e != api.ErrNil || c.Changed() != 0 {
		t.Error(l, r, e)
	}
}

// A tree that is not changed is laid as no pages, with the base's own root.
func TestLayOfNothing(t *testing.T) {
	for _, f := range frames() {
		r := rand.New(rand.NewSource(16))
		for levels := range 4 {
			y := trialOf(t, f, grownTo(t, r, f, levels))
			for _, at := range [][]uint32{nil, {}} {
				if l, root := y.lay(9, at); len(l) > 0 || root != y.x.Base() {
					t.Error(f, l, root)
				}
			}
		}
	}
}
