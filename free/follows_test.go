package free_test

import (
	"maps"
	"math/rand"
	"slices"
	"testing"

	"heartwood/api"
	"heartwood/free"
	"heartwood/page"
)

// takes answers all numbers that a plan takes.
func takes(p api.Plan) []uint32 { return slices.Concat(p.Trees, pagesOf(p.Lists)) }

// ownedBy complains, if a plan takes what it may not: P9.9.
func ownedBy(t *testing.T, n api.Need, p api.Plan) {
	t.Helper()
	all := takes(p)
	for what, l := range map[string][]uint32{"released": n.Released, "a list page": pagesOf(n.Chain)} {
		if no, is := common(all, l); is {
			t.Fatalf("%d is taken, and is %s: %v %v", no, what, n, p)
		}
	}
	for _, no := range all {
		fresh := no >= n.Pages && no < p.Pages
		spare := slices.Contains(told(n.Chain), no)
		if fresh == spare || spare && slices.Contains(n.Held, no) {
			t.Fatalf("%d is taken: %v %v", no, n, p)
		}
	}
	if len(slices.Compact(sorted(all))) != len(all) {
		t.Fatalf("a number is taken twice: %v %v", n, p)
	}
}

// lost complains, if a plan loses a page, or doubles one: P9.10.
func lost(t *testing.T, f api.Frame, n api.Need, p api.Plan) {
	t.Helper()
	after := free.After(n.Chain, p)
	if !dueRight(f, after, p.Pages) {
		t.Fatalf("the new chain is not right: %v %v", n, p)
	}
	checks(t, "a new chain", f, after, p.Pages, api.OK)
	was := sorted(named(n.Chain), n.Released, run(n.Pages, int(p.Pages-n.Pages)))
	is := sorted(named(after), p.Trees)
	if !slices.Equal(was, is) {
		t.Fatalf("%v has become %v: %v %v", was, is, n, p)
	}
	if len(p.Trees) != n.Trees || p.Pages < n.Pages || p.Pages > n.Most {
		t.Fatalf("another plan than was asked: %v %v", n, p)
	}
}

// few complains, if a plan that holds nothing has more list pages than it wants: P9.11.
func few(t *testing.T, f api.Frame, n api.Need, p api.Plan) {
	t.Helper()
	r := len(n.Released) + p.Opened
	if len(p.Lists) > (r+entries(f)-1)/entries(f)+1 {
		t.Fatalf("%d list pages for %d that are released: %v", len(p.Lists), r, n)
	}
}

// wanted complains, if a plan takes the end ahead of what is free: P9.12.
func wanted(t *testing.T, n api.Need, p api.Plan) {
	t.Helper()
	all := takes(p)
	if p.Pages > n.Pages {
		for _, no := range told(n.Chain) {
			if !slices.Contains(all, no) && !slices.Contains(n.Held, no) {
				t.Fatalf("%d is free, and the end is taken: %v %v", no, n, p)
			}
		}
	}
	atEnd := slices.ContainsFunc(pagesOf(p.Lists), func(no uint32) bool { return no >= n.Pages })
	if atEnd && p.Opened != len(n.Chain) {
		t.Fatalf("a list page at the end, and not all batches are opened: %v %v", n, p)
	}
}

// holds complains, if a plan breaks what follows.
func holds(t *testing.T, f api.Frame, n api.Need, p api.Plan) {
	t.Helper()
	ownedBy(t, n, p)
	lost(t, f, n, p)
	wanted(t, n, p)
	if len(n.Held) == 0 {
		few(t, f, n, p)
	}
}

// P9.9 to P9.12 by chance.
func TestWhatFollowsByChance(t *testing.T) {
	t.Parallel()
	chances(99, 20000, func(_ *rand.Rand, f api.Frame, n api.Need) {
		if p, e := free.Plan(f, n); e == api.OK {
			holds(t, f, n, p)
		}
	})
}

// P9.9 to P9.12 of great files, with more list pages than one; P9.11 with all that may be released.
func TestWhatFollowsOfGreatFiles(t *testing.T) {
	t.Parallel()
	by := rand.New(rand.NewSource(990))
	for i := range 150 {
		x := anyFile(by, small(), 2500, 1+by.Intn(12))
		n := x.need(by)
		n.Most = most
		n.Trees = by.Intn(1 + n.Trees/(1+by.Intn(60)))
		if i%2 > 0 {
			n.Held = nil
		}
		p, e := free.Plan(small(), n)
		if e != api.OK {
			t.Fatal(e)
		}
		holds(t, small(), n, p)
	}
}

// P9.11 at its edges: full batches, of which as many are opened as can be, and as many pages released as list pages hold.
func TestFewListPages(t *testing.T) {
	f := small()
	n := entries(f)
	count := uint32(6 * (n + 1))
	l := full(f, count)
	for _, trees := range []int{0, 1, 2, n - 2, n - 1, n, n + 1, 2*n - 1, 2 * n, 2*n + 1, 6*n - 7, 6*n - 6} {
		for _, released := range []int{0, 1, 2, n - 2, n - 1, n, n + 1, 2*n - 2, 2 * n, 3*n + 1} {
			need := api.Need{Chain: l, Pages: count + uint32(released), Trees: trees, Released: run(count, released), Most: most}
			p, e := free.Plan(f, need)
			if e != api.OK {
				t.Fatal(e)
			}
			few(t, f, need, p)
			lost(t, f, need, p)
		}
	}
}

// life is a file that lives: its shelf, its trees of all versions, and what is held of them.
type life struct {
	f     api.Frame
	pages uint32
	chain []api.Batch
	shelf *page.Shelf
	trees [][]uint32
	held  map[int]bool
}

func born(t *testing.T, f api.Frame) *life {
	shelf, e := page.NewShelf(f)
	if e != api.OK {
		t.Fatal(e)
	}
	return &life{f: f, pages: 2, shelf: shelf, trees: [][]uint32{nil}, held: map[int]bool{}}
}

func (x *life) tree() []uint32 { return x.trees[len(x.trees)-1] }

// versions answers the versions that are held, rising.
func (x *life) versions() []int { return slices.Sorted(maps.Keys(x.held)) }

// heldPages answers the pages of the trees that are held, in any order.
func (x *life) heldPages(by *rand.Rand) []uint32 {
	var l []uint32
	for _, version := range x.versions() {
		l = append(l, x.trees[version]...)
	}
	by.Shuffle(len(l), func(i, j int) { l[i], l[j] = l[j], l[i] })
	return l
}

// commit makes a new tree: so many of the present one's pages are released, and so many are new. The new chain is laid, and read again.
func (x *life) commit(t *testing.T, by *rand.Rand, released, trees int) api.Plan {
	t.Helper()
	old := slices.Clone(x.tree())
	by.Shuffle(len(old), func(i, j int) { old[i], old[j] = old[j], old[i] })
	n := api.Need{Chain: x.chain, Pages: x.pages, Held: x.heldPages(by), Trees: trees, Released: old[:released], Most: most}
	p, e := free.Plan(x.f, n)
	if e != api.OK {
		t.Fatal("a plan", e)
	}
	holds(t, x.f, n, p)
	for version := range x.held {
		if no, is := common(takes(p), x.trees[version]); is {
			t.Fatalf("%d is taken, and version %d is held", no, version)
		}
	}
	if no, is := common(takes(p), x.tree()); is {
		t.Fatalf("%d is taken, and is the durable tree's", no)
	}
	x.lay(t, p)
	x.trees = append(x.trees, slices.Concat(old[released:], p.Trees))
	x.chain, x.pages = free.After(x.chain, p), p.Pages
	all := sorted(x.tree(), named(x.chain))
	if !slices.Equal(all, run(2, int(x.pages)-2)) {
		t.Fatalf("of %d pages these are somebody's: %v", x.pages, all)
	}
	return p
}

// lay puts a plan's pages on the shelf, and reads the new chain: P9.13.
func (x *life) lay(t *testing.T, p api.Plan) {
	t.Helper()
	version := uint64(len(x.trees))
	laid, e := free.Lay(x.f, version, x.chain, p)
	if e != api.OK || len(laid) != len(p.Lists) {
		t.Fatal("Lay", len(laid), e)
	}
	after := free.After(x.chain, p)
	was := pagesOf(x.chain)
	for i, s := range laid {
		if slices.Contains(was, s.No) || s.No != p.Lists[i].Page || s.Version != version {
			t.Fatal("a page is written", s.No, s.Version)
		}
		if e := x.shelf.Lay(s); e != api.OK {
			t.Fatal("a page may not be", e)
		}
	}
	// The tree's pages come to the shelf as well, in the place of what stood there.
	for _, no := range p.Trees {
		x.shelf.Lay(api.Page{Kind: api.PageLeaf, No: no, Version: version, Body: "leaf"})
	}
	first := append(pagesOf(after), 0)[0]
	if got, e := free.Read(x.f, x.shelf, first, p.Pages); !sameChain(got, after) || e != api.OK {
		t.Fatalf("Read: %v %v, and not %v", got, e, after)
	}
	// What stood there is there still: the old chain can be read, as long as the new one's record is not written.
	first = append(pagesOf(x.chain), 0)[0]
	if got, e := free.Read(x.f, x.shelf, first, x.pages); !sameChain(got, x.chain) || e != api.OK {
		t.Fatalf("Read of the old chain: %v %v, and not %v", got, e, x.chain)
	}
}

// P9.9, P9.10, P9.13 in lives with versions that are held for a while.
func TestLives(t *testing.T) {
	t.Parallel()
	by := rand.New(rand.NewSource(9913))
	for i := range 40 {
		f := sizes()[i%4]
		x := born(t, f)
		largest := 1 + by.Intn(40)
		for range 60 {
			for _, version := range x.versions() {
				if by.Intn(6) == 0 {
					delete(x.held, version)
				}
			}
			if by.Intn(3) == 0 {
				x.held[len(x.trees)-1] = true
			}
			released := by.Intn(len(x.tree()) + 1)
			x.commit(t, by, released, by.Intn(largest))
		}
	}
}

// P9.13 with chains of several batches: great trees that come and go.
func TestGreatLives(t *testing.T) {
	t.Parallel()
	by := rand.New(rand.NewSource(9914))
	longest, opened := 0, map[int]bool{}
	for range 4 {
		x := born(t, small())
		for range 14 {
			if by.Intn(4) == 0 {
				x.held[len(x.trees)-1] = true
			} else if by.Intn(2) == 0 {
				clear(x.held)
			}
			p := x.commit(t, by, len(x.tree())-by.Intn(len(x.tree())/4+1), by.Intn(700))
			longest = max(longest, len(x.chain))
			opened[p.Opened] = true
		}
	}
	if longest < 4 || !opened[0] && !opened[1] || !opened[2] || !opened[3] {
		t.Error("the chains are too short", longest, opened)
	}
}

// steady complains, if a file in which nothing is held has grown too far: P9.14.
func (x *life) steady(t *testing.T, greatest int) {
	t.Helper()
	if int(x.pages) > 4+2*greatest || len(x.chain) > 1 {
		t.Fatalf("trees of %d pages at most, and %d are counted, with %d batches", greatest, x.pages, len(x.chain))
	}
}

// P9.14 by chance: small trees and greater ones, changed a little or in all.
func TestSteadyByChance(t *testing.T) {
	t.Parallel()
	by := rand.New(rand.NewSource(914))
	for i := range 60 {
		f := sizes()[i%4]
		x := born(t, f)
		bound, greatest := 1+by.Intn((entries(f)-4)/2/(1+by.Intn(9))), 0
		for range 60 {
			released := by.Intn(len(x.tree()) + 1)
			if by.Intn(3) == 0 {
				released = len(x.tree())
			}
			trees := by.Intn(bound - len(x.tree()) + released + 1)
			if by.Intn(3) == 0 {
				trees = bound - len(x.tree()) + released
			}
			x.commit(t, by, released, trees)
			greatest = max(greatest, len(x.tree()))
			x.steady(t, greatest)
		}
	}
}

// P9.14: each tree is the greatest there may be, and wholly new; with all T for which the bound is within N.
func TestSteadyAtTheGreatest(t *testing.T) {
	t.Parallel()
	by := rand.New(rand.NewSource(9140))
	for greatest := range (entries(small())-4)/2 + 1 {
		x := born(t, small())
		for range 7 {
			x.commit(t, by, len(x.tree()), greatest)
			x.steady(t, greatest)
		}
	}
}

// P9.14: all small lives, of trees of two pages at most.
func TestAllSmallLives(t *testing.T) {
	t.Parallel()
	const greatest = 2
	var live func(x *life, left, most int)
	live = func(x *life, left, most int) {
		for released := range len(x.tree()) + 1 {
			for trees := range greatest - len(x.tree()) + released + 1 {
				next := &life{f: x.f, pages: x.pages, chain: x.chain, trees: slices.Clone(x.trees)}
				n := api.Need{Chain: x.chain, Pages: x.pages, Trees: trees, Released: x.tree()[:released], Most: 65536}
				p, e := free.Plan(x.f, n)
				if e != api.OK {
					t.Fatal(e)
				}
				holds(t, x.f, n, p)
				next.trees = append(next.trees, slices.Concat(x.tree()[released:], p.Trees))
				next.chain, next.pages = free.After(x.chain, p), p.Pages
				most := max(most, len(next.tree()))
				next.steady(t, most)
				if left > 0 {
					live(next, left-1, most)
				}
			}
		}
	}
	live(born(t, small()), 4, 0)
}
