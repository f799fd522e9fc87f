package free_test

import (
	"math"
	"math/rand"
	"slices"
	"testing"

	"heartwood/api"
	"heartwood/free"
)

// checks complains, if Check answers something else.
func checks(t *testing.T, what string, f api.Frame, l []api.Batch, pages uint32, want api.Errno) {
	t.Helper()
	if e := free.Check(f, l, pages); e != want {
		t.Fatalf("Check of %s in %v for %d: %v, and not %v", what, f, pages, e, want)
	}
}

// P9.4: chains that are right.
func TestRightChains(t *testing.T) {
	for _, f := range frames() {
		n := entries(f)
		for what, x := range map[string]struct {
			chain []api.Batch
			pages uint32
		}{
			"no batch":               {nil, 2},
			"no batch of many":       {nil, most},
			"an empty list":          {chain(), 3},
			"one of no Numbers":      {chain(batch(2)), 3},
			"an empty list in it":    {chain(batch(2, []uint32{}...)), 3},
			"the ends":               {chain(batch(2, most-1)), most},
			"the ends, turned":       {chain(batch(most-1, 2)), most},
			"several of no Numbers":  {chain(batch(4), batch(2), batch(3)), 5},
			"falling ones":           {chain(batch(9, 7, 8), batch(6, 4, 5), batch(3, 2)), 10},
			"N Numbers":              {chain(batch(2, run(3, n)...)), uint32(n) + 3},
			"N Numbers twice":        {chain(batch(2, run(4, n)...), batch(3, run(uint32(n)+4, n)...)), uint32(2*n) + 4},
			"an empty one between":   {chain(batch(2, 5), batch(3), batch(4, 6)), 7},
			"pages that rise and so": {chain(batch(5, 2, 6), batch(3, 4)), 7},
		} {
			checks(t, what, f, x.chain, x.pages, api.OK)
			if x.pages > 2 && len(x.chain) > 0 {
				checks(t, what+", one page fewer,", f, x.chain, x.pages-1, api.ErrList)
			}
		}
	}
}

// P9.4: chains that are not.
func TestWrongChains(t *testing.T) {
	for _, f := range frames() {
		n := entries(f)
		for what, l := range map[string][]api.Batch{
			"a Page 0":                       chain(batch(0)),
			"a Page 1":                       chain(batch(1, 5)),
			"a Page 1 behind":                chain(batch(5, 6), batch(1)),
			"a Page at the count":            chain(batch(most - 1)),
			"a Page above all":               chain(batch(math.MaxUint32)),
			"a Number 0":                     chain(batch(5, 0)),
			"a Number 1":                     chain(batch(5, 1, 2)),
			"a Number at the count":          chain(batch(5, 2, most-1)),
			"a Number above all":             chain(batch(5, 2, math.MaxUint32)),
			"a Page twice":                   chain(batch(5, 2), batch(5, 3)),
			"a Page twice, without Numbers":  chain(batch(5), batch(6), batch(5)),
			"a Page that is its own Number":  chain(batch(5, 4, 5, 6)),
			"a Page of a Number ahead":       chain(batch(5, 6), batch(6, 7)),
			"a Page of a Number behind":      chain(batch(5, 7), batch(6, 5)),
			"a Number of two batches":        chain(batch(5, 7, 8), batch(6, 8, 9)),
			"a Number twice in one":          chain(batch(5, 7, 7)),
			"falling Numbers":                chain(batch(5, 8, 7)),
			"falling Numbers behind":         chain(batch(5, 7, 8), batch(6, 9, 11, 10)),
			"more Numbers than N":            chain(batch(2, run(3, n+1)...)),
			"more Numbers than N, behind it": chain(batch(2), batch(3, run(4, n+1)...)),
		} {
			checks(t, what, f, l, most-1, api.ErrList)
		}
		// 65535 batches cannot be unlike.
		many := make([]api.Batch, 1<<17)
		checks(t, "many of the Page 0", f, many, most, api.ErrList)
		for i := range many {
			many[i].Page = uint32(2 + i)
		}
		checks(t, "as many as there may be", f, many[:most-2], most, api.OK)
		checks(t, "one more", f, many[:most-1], most, api.ErrList)
	}
}

// P9.4: wrong frames and counts come ahead of wrong chains.
func TestCheckOfWrongArguments(t *testing.T) {
	for _, l := range [][]api.Batch{nil, chain(batch(2)), chain(batch(0)), chain(batch(3, 9, 5))} {
		for _, f := range wrong() {
			for _, pages := range []uint32{0, 2, 10, most, most + 1} {
				checks(t, "a chain", f, l, pages, api.ErrArg)
			}
		}
		for _, f := range frames() {
			for _, pages := range []uint32{0, 1, most + 1, 1 << 31, math.MaxUint32} {
				checks(t, "a chain", f, l, pages, api.ErrArg)
			}
		}
	}
}

// broken answers a chain with one thing made otherwise; it may be right still.
func broken(by *rand.Rand, l []api.Batch) []api.Batch {
	l = copyChain(l)
	if len(l) == 0 {
		return chain(batch(uint32(by.Intn(12))))
	}
	b := &l[by.Intn(len(l))]
	no := uint32(by.Intn(30))
	switch by.Intn(5) {
	case 0:
		b.Page = no
	case 1:
		b.Numbers = append(b.Numbers, no)
	case 2:
		b.Numbers = slices.Insert(b.Numbers, 0, no)
	case 3:
		slices.Reverse(b.Numbers)
	case 4:
		l = append(l, batch(no))
	}
	return l
}

// P9.4 by chance, against the words of the chapter.
func TestCheckByChance(t *testing.T) {
	by := rand.New(rand.NewSource(94))
	count := map[api.Errno]int{}
	for range 20000 {
		f := sizes()[by.Intn(4)]
		x := anyFile(by, f, 25, 4)
		l := x.chain
		for range by.Intn(3) {
			l = broken(by, l)
		}
		want := dueCheck(f, l, x.pages)
		count[want]++
		g := &guard{}
		checks(t, "a chain by chance", f, g.chain(l), x.pages, want)
		g.kept(t, "a chain")
	}
	if count[api.OK] < 1000 || count[api.ErrList] < 1000 {
		t.Error("too few of a kind", count)
	}
}

// P9.6
func TestAfter(t *testing.T) {
	a, b, c, x, y := batch(6, 2, 4), batch(3), batch(9, 5, 7, 8), batch(20, 21), batch(22)
	for _, it := range []struct {
		opened int
		lists  []api.Batch
		want   []api.Batch
	}{
		{0, nil, chain(a, b, c)},
		{-1, nil, chain(a, b, c)},
		{math.MinInt, chain(x), chain(x, a, b, c)},
		{0, chain(x, y), chain(x, y, a, b, c)},
		{1, chain(x, y), chain(x, y, b, c)},
		{2, chain(y, x), chain(y, x, c)},
		{2, nil, chain(c)},
		{3, chain(x), chain(x)},
		{4, chain(x), chain(x)},
		{math.MaxInt, chain(x), chain(x)},
		{3, nil, nil},
		{math.MaxInt, nil, nil},
		// Nothing is asked of what is handed in.
		{1, chain(a, a, batch(0, 9, 1, 1)), chain(a, a, batch(0, 9, 1, 1), b, c)},
	} {
		got := free.After(chain(a, b, c), api.Plan{Lists: it.lists, Opened: it.opened})
		if !sameChain(got, it.want) {
			t.Errorf("After with %d opened and %v: %v, and not %v", it.opened, it.lists, got, it.want)
		}
	}
	// One batch that is handed in twice becomes two lists.
	twice := chain(c, c)
	apart(t, "After's answer", numbersOf(free.After(twice, api.Plan{Lists: twice}))...)
	for _, opened := range []int{math.MinInt, -1, 0, 1, math.MaxInt} {
		if l := free.After(nil, api.Plan{Opened: opened, Trees: []uint32{2}, Pages: 9}); len(l) != 0 {
			t.Error("After of nothing", l)
		}
	}
}

func TestAfterByChance(t *testing.T) {
	by := rand.New(rand.NewSource(96))
	for range 3000 {
		l, p := anyFile(by, small(), 30, 5).chain, api.Plan{Lists: anyFile(by, small(), 30, 5).chain, Opened: by.Intn(9) - 2}
		l, p.Lists = broken(by, l), broken(by, p.Lists)
		want := dueAfter(l, p)
		g := &guard{}
		in, with := g.chain(l), g.plan(p)
		got, again := free.After(in, with), free.After(in, with)
		if !sameChain(got, want) || !sameChain(again, want) {
			t.Fatalf("After of %v and %v: %v, and not %v", l, p, got, want)
		}
		apart(t, "After's answer", numbersOf(got)...)
		scribbleChain(got)
		g.kept(t, "what After was handed")
		g.spoil()
		if !sameChain(again, want) {
			t.Fatal("an answer of After is not its own", again)
		}
	}
}
