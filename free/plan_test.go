package free_test

import (
	"math"
	"math/rand"
	"slices"
	"testing"

	"heartwood/api"
	"heartwood/free"
)

// plans complains, if Plan answers something else.
func plans(t *testing.T, what string, f api.Frame, n api.Need, want api.Plan, e api.Errno) {
	t.Helper()
	p, got := free.Plan(f, n)
	if !samePlan(p, want) || got != e {
		t.Fatalf("Plan of %s in %v: %v %v, and not %v %v", what, f, p, got, want, e)
	}
	if e != api.OK && !nothing(p) {
		t.Fatalf("Plan of %s in %v answers %v beside %v", what, f, p, e)
	}
}

// fails complains, if Plan does not answer that error, and nothing else.
func fails(t *testing.T, what string, f api.Frame, n api.Need, e api.Errno) {
	t.Helper()
	plans(t, what, f, n, api.Plan{}, e)
}

// P9.5: the plan's steps, told outright. Most is just enough in each, and one fewer is too few where the end was taken.
func TestPlans(t *testing.T) {
	a, b, c := batch(6, 2, 4), batch(3, 5, 8), batch(7, 9, 10)
	abc := chain(a, b, c)
	list := func(l ...uint32) []uint32 { return l }
	for what, x := range map[string]struct {
		n    api.Need
		want api.Plan
	}{
		"nothing at all":             {api.Need{Pages: 2}, api.Plan{Pages: 2}},
		"the first page":             {api.Need{Pages: 2, Trees: 1}, api.Plan{Trees: list(2), Pages: 3}},
		"a page released":            {api.Need{Pages: 3, Released: list(2)}, api.Plan{Lists: chain(batch(3, 2)), Pages: 4}},
		"released and taken":         {api.Need{Pages: 5, Trees: 2, Released: list(3)}, api.Plan{Trees: list(5, 6), Lists: chain(batch(7, 3)), Pages: 8}},
		"released in any order":      {api.Need{Pages: 9, Released: list(8, 2, 5, 3)}, api.Plan{Lists: chain(batch(9, 2, 3, 5, 8)), Pages: 10}},
		"nothing is loose":           {api.Need{Chain: abc, Pages: 11}, api.Plan{Pages: 11}},
		"one of the first":           {api.Need{Chain: abc, Pages: 11, Trees: 1}, api.Plan{Trees: list(2), Lists: chain(batch(4, 6)), Opened: 1, Pages: 11}},
		"all of the first":           {api.Need{Chain: abc, Pages: 11, Trees: 2}, api.Plan{Trees: list(2, 4), Lists: chain(batch(5, 3, 6, 8)), Opened: 2, Pages: 11}},
		"of the second":              {api.Need{Chain: abc, Pages: 11, Trees: 3}, api.Plan{Trees: list(2, 4, 5), Lists: chain(batch(8, 3, 6)), Opened: 2, Pages: 11}},
		"of the third":               {api.Need{Chain: abc, Pages: 11, Trees: 5}, api.Plan{Trees: list(2, 4, 5, 8, 9), Lists: chain(batch(10, 3, 6, 7)), Opened: 3, Pages: 11}},
		"all there are":              {api.Need{Chain: abc, Pages: 11, Trees: 6}, api.Plan{Trees: list(2, 4, 5, 8, 9, 10), Lists: chain(batch(11, 3, 6, 7)), Opened: 3, Pages: 12}},
		"more than there are":        {api.Need{Chain: abc, Pages: 11, Trees: 8}, api.Plan{Trees: list(2, 4, 5, 8, 9, 10, 11, 12), Lists: chain(batch(13, 3, 6, 7)), Opened: 3, Pages: 14}},
		"for a list page alone":      {api.Need{Chain: chain(a), Pages: 9, Released: list(8)}, api.Plan{Lists: chain(batch(2, 4, 6, 8)), Opened: 1, Pages: 9}},
		"the first one is held":      {api.Need{Chain: abc, Pages: 11, Trees: 1, Held: list(2)}, api.Plan{Trees: list(4), Lists: chain(batch(5, 2, 3, 6, 8)), Opened: 2, Pages: 11}},
		"the first batch is held":    {api.Need{Chain: abc, Pages: 11, Trees: 1, Held: list(4, 2)}, api.Plan{Trees: list(5), Lists: chain(batch(8, 2, 3, 4, 6)), Opened: 2, Pages: 11}},
		"the last one is held":       {api.Need{Chain: abc, Pages: 11, Trees: 5, Held: list(10)}, api.Plan{Trees: list(2, 4, 5, 8, 9), Lists: chain(batch(11, 3, 6, 7, 10)), Opened: 3, Pages: 12}},
		"the second batch is held":   {api.Need{Chain: abc, Pages: 11, Trees: 2, Held: list(5, 8, 5)}, api.Plan{Trees: list(2, 4), Lists: chain(batch(9, 3, 5, 6, 7, 8, 10)), Opened: 3, Pages: 11}},
		"all are held, a list wants": {api.Need{Chain: abc, Pages: 12, Released: list(11), Held: run(0, 12)}, api.Plan{Lists: chain(batch(12, 2, 3, 4, 5, 6, 7, 8, 9, 10, 11)), Opened: 3, Pages: 13}},
		"all are held, none wants":   {api.Need{Chain: abc, Pages: 11, Trees: 2, Held: run(0, 12)}, api.Plan{Trees: list(11, 12), Pages: 13}},
		"held beyond the count":      {api.Need{Chain: chain(a), Pages: 7, Trees: 3, Held: list(7, 8, 7, most, math.MaxUint32, 0, 1)}, api.Plan{Trees: list(2, 4, 7), Lists: chain(batch(8, 6)), Opened: 1, Pages: 9}},
		"an empty batch ahead":       {api.Need{Chain: chain(batch(7), a), Pages: 8, Trees: 1}, api.Plan{Trees: list(2), Lists: chain(batch(4, 6, 7)), Opened: 2, Pages: 8}},
		"an empty batch behind":      {api.Need{Chain: chain(a, batch(7)), Pages: 8, Trees: 2}, api.Plan{Trees: list(2, 4), Lists: chain(batch(8, 6, 7)), Opened: 2, Pages: 9}},
		"empty batches alone":        {api.Need{Chain: chain(batch(2), batch(3)), Pages: 4, Trees: 1}, api.Plan{Trees: list(4), Pages: 5}},
		"those, and one released":    {api.Need{Chain: chain(batch(2), batch(3)), Pages: 5, Released: list(4)}, api.Plan{Lists: chain(batch(5, 2, 3, 4)), Opened: 2, Pages: 6}},
		"the last page is numbered":  {api.Need{Pages: most - 1, Trees: 1}, api.Plan{Trees: list(most - 1), Pages: most}},
		"the last page is a list":    {api.Need{Pages: most - 1, Released: list(most - 2)}, api.Plan{Lists: chain(batch(most-1, most-2)), Pages: most}},
	} {
		for _, f := range sizes() {
			n := x.n
			n.Most = most
			plans(t, what, f, n, x.want, api.OK)
			n.Most = x.want.Pages
			plans(t, what+", just enough", f, n, x.want, api.OK)
			if x.want.Pages > n.Pages {
				n.Most--
				fails(t, what+", one too few", f, n, api.ErrFull)
			}
		}
	}
}

// P9.5: so many released that several list pages are wanted, and the edges of N.
func TestPlansOfManyLists(t *testing.T) {
	for _, f := range frames() {
		n := entries(f)
		for _, many := range []int{1, n - 1, n, n + 1, 2*n - 1, 2 * n, 2*n + 1, 3*n + 5} {
			count := uint32(many) + 2
			p, e := free.Plan(f, api.Need{Pages: count, Released: run(2, many), Most: most})
			want := api.Plan{Pages: count}
			for from := 0; from < many; from += n {
				want.Lists = append(want.Lists, batch(want.Pages, run(uint32(2+from), min(n, many-from))...))
				want.Pages++
			}
			if !samePlan(p, want) || e != api.OK {
				t.Fatalf("Plan of %d released in %v: %d lists, count %d, %v", many, f, len(p.Lists), p.Pages, e)
			}
		}
	}
}

// P9.5: list pages that are taken of what is left are loose no more, so that the last piece may be empty.
func TestPlansWhoseLastListIsEmpty(t *testing.T) {
	for _, f := range frames() {
		n := entries(f)
		// Behind one page for the tree n - 1 are left, and the batch's page and one released are loose: one more than N.
		full := chain(batch(2, run(4, n)...))
		p, e := free.Plan(f, api.Need{Chain: full, Pages: uint32(n) + 4, Trees: 1, Released: []uint32{3}, Most: most})
		want := api.Plan{Trees: []uint32{4}, Lists: chain(batch(5, slices.Concat([]uint32{2, 3}, run(6, n-2))...)), Opened: 1, Pages: uint32(n) + 4}
		if !samePlan(p, want) || e != api.OK {
			t.Fatalf("Plan in %v: %v %v", f, p, e)
		}
		// With nothing taken for the tree N are left: with both others N + 2, which is N + 1 behind the first list page, and N behind the second.
		p, e = free.Plan(f, api.Need{Chain: full, Pages: uint32(n) + 4, Released: []uint32{3}, Most: most})
		want = api.Plan{Lists: chain(batch(4, slices.Concat([]uint32{2, 3}, run(6, n-2))...), batch(5)), Opened: 1, Pages: uint32(n) + 4}
		if !samePlan(p, want) || e != api.OK {
			t.Fatalf("Plan with an empty list in %v: %v %v", f, p, e)
		}
	}
}

// P9.5: arguments that may not be.
func TestNeedsThatMayNotBe(t *testing.T) {
	good := api.Need{Chain: chain(batch(6, 2, 4)), Pages: 7, Trees: 1, Released: []uint32{5}, Most: 9}
	for _, f := range wrong() {
		fails(t, "a wrong frame", f, good, api.ErrArg)
		fails(t, "a wrong frame", f, api.Need{}, api.ErrArg)
	}
	for what, change := range map[string]func(n *api.Need){
		"Pages 0":             func(n *api.Need) { n.Pages, n.Chain, n.Released = 0, nil, nil },
		"Pages 1":             func(n *api.Need) { n.Pages, n.Chain, n.Released = 1, nil, nil },
		"too many Pages":      func(n *api.Need) { n.Pages, n.Most = most+1, most+1 },
		"Most above all":      func(n *api.Need) { n.Most = most + 1 },
		"Most far above all":  func(n *api.Need) { n.Most = math.MaxUint32 },
		"Most below Pages":    func(n *api.Need) { n.Most = 6 },
		"Most 0":              func(n *api.Need) { n.Most = 0 },
		"Trees -1":            func(n *api.Need) { n.Trees = -1 },
		"the least Trees":     func(n *api.Need) { n.Trees = math.MinInt },
		"Pages far above all": func(n *api.Need) { n.Pages, n.Most = math.MaxUint32, math.MaxUint32 },
	} {
		n := good
		change(&n)
		for _, f := range frames() {
			fails(t, what, f, n, api.ErrArg)
			// These come ahead of chains that are not right.
			n.Chain, n.Released = chain(batch(1, 9, 5)), []uint32{1, 1}
			fails(t, what+" and a wrong chain", f, n, api.ErrArg)
		}
	}
}

// P9.5: chains and released pages that are not right.
func TestNeedsThatAreNotRight(t *testing.T) {
	good := api.Need{Chain: chain(batch(6, 2, 4), batch(7)), Pages: 9, Trees: 1, Released: []uint32{5}, Most: 20}
	for what, change := range map[string]func(n *api.Need){
		"a Page at the count":       func(n *api.Need) { n.Chain = chain(batch(9)) },
		"a Number at the count":     func(n *api.Need) { n.Chain = chain(batch(6, 2, 9)) },
		"a Page 1":                  func(n *api.Need) { n.Chain = chain(batch(1, 2)) },
		"a Number 1":                func(n *api.Need) { n.Chain = chain(batch(6, 1)) },
		"falling Numbers":           func(n *api.Need) { n.Chain = chain(batch(6, 4, 2)) },
		"a Number twice":            func(n *api.Need) { n.Chain = chain(batch(6, 2), batch(7, 2)) },
		"a Page that is a Number":   func(n *api.Need) { n.Chain = chain(batch(6, 7), batch(7)) },
		"released twice":            func(n *api.Need) { n.Released = []uint32{5, 3, 5} },
		"released, but free":        func(n *api.Need) { n.Released = []uint32{5, 4} },
		"released, but a list page": func(n *api.Need) { n.Released = []uint32{3, 7} },
		"released 0":                func(n *api.Need) { n.Released = []uint32{0} },
		"released 1":                func(n *api.Need) { n.Released = []uint32{3, 1} },
		"released at the count":     func(n *api.Need) { n.Released = []uint32{9} },
		"released above all":        func(n *api.Need) { n.Released = []uint32{math.MaxUint32} },
		"released far too many":     func(n *api.Need) { n.Released = run(2, 1<<18) },
		"released 65536 times the same": func(n *api.Need) {
			n.Released = slices.Repeat([]uint32{5}, most)
		},
	} {
		n := good
		change(&n)
		for _, f := range frames() {
			n.Most = 20
			fails(t, what, f, n, api.ErrList)
			// These come ahead of too little room.
			n.Most, n.Trees = n.Pages, 100
			fails(t, what+" and no room", f, n, api.ErrList)
		}
	}
	for _, f := range frames() {
		fails(t, "more Numbers than N", f, api.Need{Chain: chain(batch(2, run(3, entries(f)+1)...)), Pages: 9000, Most: 9000}, api.ErrList)
	}
}

// P9.5: Most, at its ends; wants that are beyond all end all the same.
func TestPlansWithoutRoom(t *testing.T) {
	for _, f := range sizes() {
		plans(t, "nothing", f, api.Need{Pages: 2, Most: 2}, api.Plan{Pages: 2}, api.OK)
		fails(t, "one page", f, api.Need{Pages: 2, Most: 2, Trees: 1}, api.ErrFull)
		fails(t, "one page of a full file", f, api.Need{Pages: most, Most: most, Trees: 1}, api.ErrFull)
		fails(t, "a list of a full file", f, api.Need{Pages: most, Most: most, Released: []uint32{2}}, api.ErrFull)
		plans(t, "nothing of a full file", f, api.Need{Pages: most, Most: most}, api.Plan{Pages: most}, api.OK)
		fails(t, "the most", f, api.Need{Pages: 2, Most: most, Trees: math.MaxInt}, api.ErrFull)
		fails(t, "the most of a chain", f, api.Need{Chain: chain(batch(3, 2)), Pages: 4, Most: 5, Trees: math.MaxInt}, api.ErrFull)
		p, e := free.Plan(f, api.Need{Pages: 2, Most: most, Trees: most - 2})
		if e != api.OK || p.Pages != most || !slices.Equal(p.Trees, run(2, most-2)) {
			t.Fatal("all pages there may be", len(p.Trees), p.Pages, e)
		}
		fails(t, "one more than there may be", f, api.Need{Pages: 2, Most: most, Trees: most - 1}, api.ErrFull)
	}
}

// full answers a chain that owns all pages of a file of so many.
func full(f api.Frame, pages uint32) []api.Batch {
	var l []api.Batch
	for no := uint32(2); no < pages; {
		many := min(entries(f), int(pages-no)-1)
		l = append(l, batch(no, run(no+1, many)...))
		no += uint32(many) + 1
	}
	return l
}

// P9.5: the greatest file that there is, all free.
func TestPlansOfTheGreatestChain(t *testing.T) {
	for _, f := range sizes() {
		l := full(f, most)
		checks(t, "the greatest chain", f, l, most, api.OK)
		numbers := told(l)
		taken := len(numbers) - 2
		want := api.Plan{Trees: numbers[:taken], Opened: len(l), Pages: most}
		if at := entries(f); len(l) > at {
			want.Lists = chain(batch(numbers[taken], pagesOf(l[:at])...), batch(numbers[taken+1], pagesOf(l[at:])...))
		} else {
			want.Lists = chain(batch(numbers[taken], append(pagesOf(l), numbers[taken+1])...))
		}
		p, e := free.Plan(f, api.Need{Chain: l, Pages: most, Most: most, Trees: taken})
		if e != api.OK || !samePlan(p, want) {
			t.Fatal("nearly all of it", f, len(p.Trees), p.Lists, p.Opened, p.Pages, e)
		}
		fails(t, "all of it", f, api.Need{Chain: l, Pages: most, Most: most, Trees: len(numbers)}, api.ErrFull)
		fails(t, "all of it, held", f, api.Need{Chain: l, Pages: most, Most: most, Trees: 1, Held: run(2, most)}, api.ErrFull)
	}
}

// misled answers a need with something in it made otherwise; it may be right still.
func misled(by *rand.Rand, n api.Need) api.Need {
	no := uint32(by.Intn(int(n.Pages) + 3))
	switch by.Intn(8) {
	case 0, 1:
		n.Chain = broken(by, n.Chain)
	case 2, 3:
		n.Released = append(n.Released, no)
	case 4:
		n.Released = append([]uint32{no}, n.Released...)
	case 5:
		n.Trees = -n.Trees
	case 6:
		n.Most = uint32(by.Intn(40))
	case 7:
		n.Pages = uint32(by.Intn(40))
	}
	return n
}

// chances are needs by chance, what is asked of files with few pages.
func chances(seed int64, many int, do func(by *rand.Rand, f api.Frame, n api.Need)) {
	by := rand.New(rand.NewSource(seed))
	for range many {
		f := sizes()[by.Intn(4)]
		do(by, f, anyFile(by, f, 40, 6).need(by))
	}
}

// P9.5 by chance, against the words of the chapter; with wrong needs among them.
func TestPlansByChance(t *testing.T) {
	t.Parallel()
	count := map[api.Errno]int{}
	chances(95, 20000, func(by *rand.Rand, f api.Frame, n api.Need) {
		if by.Intn(3) == 0 {
			n = misled(by, n)
		}
		want, e := duePlan(f, n)
		plans(t, "a need by chance", f, n, want, e)
		count[e]++
	})
	for _, e := range []api.Errno{api.OK, api.ErrArg, api.ErrList, api.ErrFull} {
		if count[e] < 100 {
			t.Error("too few of a kind", count)
		}
	}
}

// P9.5 by chance, with more than a list page holds.
func TestGreatPlansByChance(t *testing.T) {
	t.Parallel()
	by := rand.New(rand.NewSource(959))
	lists := map[int]int{}
	for range 60 {
		x := anyFile(by, small(), 1200, 9)
		n := x.need(by)
		n.Trees = by.Intn(1 + n.Trees/(1+by.Intn(60)))
		want, e := duePlan(small(), n)
		plans(t, "a great need", small(), n, want, e)
		lists[len(want.Lists)]++
	}
	if lists[0] == 0 || lists[1] == 0 || lists[2] == 0 || lists[3] == 0 {
		t.Error("too few of a kind", lists)
	}
}

// The order of Held and of Released makes no difference, nor that Held tells a number twice.
func TestPlansHangOnNoOrder(t *testing.T) {
	chances(97, 2000, func(by *rand.Rand, f api.Frame, n api.Need) {
		p, e := free.Plan(f, n)
		m := n
		m.Held = slices.Concat(sorted(n.Held), n.Held)
		m.Released = sorted(n.Released)
		plans(t, "the same in another order", f, m, p, e)
		slices.Reverse(m.Released)
		m.Held = slices.Compact(sorted(n.Held))
		plans(t, "the same in another order", f, m, p, e)
		plans(t, "the same again", f, n, p, e)
	})
}

// What is handed in stays as it is, and what is answered is memory of its own.
func TestPlansAreTheirOwn(t *testing.T) {
	once := func(f api.Frame, n api.Need) {
		g := &guard{}
		in := g.need(n)
		one, e := free.Plan(f, in)
		g.kept(t, "a need")
		two, _ := free.Plan(f, in)
		was := copyPlan(one)
		apart(t, "a plan", append(numbersOf(two.Lists), two.Trees)...)
		scribble(two.Trees)
		scribbleChain(two.Lists)
		g.kept(t, "a need")
		g.spoil()
		if !samePlan(one, was) {
			t.Fatal("a plan hangs on what it was made of")
		}
		plans(t, "the same again", f, n, was, e)
	}
	chances(98, 2000, func(_ *rand.Rand, f api.Frame, n api.Need) { once(f, n) })
	once(small(), api.Need{Chain: full(small(), 1000), Pages: 1800, Trees: 300, Released: run(1000, 800), Most: most})
}
