package free_test

import (
	"encoding/binary"
	"math"
	"math/rand"
	"slices"
	"testing"

	"heartwood/api"
)

// What the tests of this package are made of.

const (
	most    = 65536 // pages
	newest  = 1 << 40
	garbage = 0xfefefefe
)

// frames are all page sizes, with the least width, the greatest, and one between.
func frames() []api.Frame {
	var l []api.Frame
	for _, page := range []int{1024, 2048, 4096, 8192} {
		for _, width := range []int{1, 7, 32} {
			l = append(l, api.Frame{Page: page, Width: width})
		}
	}
	return l
}

// sizes are all page sizes, once.
func sizes() []api.Frame {
	return []api.Frame{{Page: 1024, Width: 32}, {Page: 2048, Width: 1}, {Page: 4096, Width: 20}, {Page: 8192, Width: 32}}
}

// small is the frame of the chapter's examples.
func small() api.Frame { return api.Frame{Page: 1024, Width: 32} }

// wrong are frames that may not be.
func wrong() []api.Frame {
	return []api.Frame{
		{}, {Page: 1024}, {Page: 1024, Width: 33}, {Page: 1024, Width: -1}, {Page: 8192, Width: math.MaxInt}, {Page: 8192, Width: math.MinInt},
		{Width: 32}, {Page: 1023, Width: 32}, {Page: 1025, Width: 32}, {Page: 512, Width: 32}, {Page: 16384, Width: 32}, {Page: 3072, Width: 32},
		{Page: -1024, Width: 32}, {Page: math.MaxInt, Width: 32}, {Page: math.MinInt, Width: 32}, {Page: 40, Width: 32}, {Page: 44, Width: 32},
	}
}

// entries is the chapter's N, outright.
func entries(f api.Frame) int {
	return map[int]int{1024: 246, 2048: 502, 4096: 1014, 8192: 2038}[f.Page]
}

// form answers the body of a batch, by the words of the chapter.
func form(next uint32, numbers ...uint32) string {
	b := binary.BigEndian.AppendUint32(nil, next)
	b = binary.BigEndian.AppendUint32(b, uint32(len(numbers)))
	for _, no := range numbers {
		b = binary.BigEndian.AppendUint32(b, no)
	}
	return string(b)
}

// run answers so many numbers, one behind the other.
func run(from uint32, many int) []uint32 {
	var l []uint32
	for i := range many {
		l = append(l, from+uint32(i))
	}
	return l
}

func batch(page uint32, numbers ...uint32) api.Batch { return api.Batch{Page: page, Numbers: numbers} }

func chain(l ...api.Batch) []api.Batch { return l }

func sameBatch(a, b api.Batch) bool { return a.Page == b.Page && slices.Equal(a.Numbers, b.Numbers) }

func sameChain(a, b []api.Batch) bool { return slices.EqualFunc(a, b, sameBatch) }

func samePlan(a, b api.Plan) bool {
	return slices.Equal(a.Trees, b.Trees) && sameChain(a.Lists, b.Lists) && a.Opened == b.Opened && a.Pages == b.Pages
}

// nothing tells whether a plan is the zero one, as it is beside an error.
func nothing(p api.Plan) bool {
	return len(p.Trees) == 0 && len(p.Lists) == 0 && p.Opened == 0 && p.Pages == 0
}

func copyChain(l []api.Batch) []api.Batch {
	var c []api.Batch
	for _, b := range l {
		c = append(c, batch(b.Page, slices.Clone(b.Numbers)...))
	}
	return c
}

func copyPlan(p api.Plan) api.Plan {
	return api.Plan{Trees: slices.Clone(p.Trees), Lists: copyChain(p.Lists), Opened: p.Opened, Pages: p.Pages}
}

// named answers all numbers that a chain names: of its pages, and free ones.
func named(l []api.Batch) []uint32 {
	var all []uint32
	for _, b := range l {
		all = append(append(all, b.Page), b.Numbers...)
	}
	return all
}

// told answers all free numbers of a chain.
func told(l []api.Batch) []uint32 {
	var all []uint32
	for _, b := range l {
		all = append(all, b.Numbers...)
	}
	return all
}

// pagesOf answers the pages of a chain.
func pagesOf(l []api.Batch) []uint32 {
	var all []uint32
	for _, b := range l {
		all = append(all, b.Page)
	}
	return all
}

func sorted(l ...[]uint32) []uint32 {
	all := slices.Concat(l...)
	slices.Sort(all)
	return all
}

// common tells a number that two lists both have.
func common(a, b []uint32) (uint32, bool) {
	i := slices.IndexFunc(a, func(no uint32) bool { return slices.Contains(b, no) })
	if i < 0 {
		return 0, false
	}
	return a[i], true
}

// guard hands lists out with spare room behind them, and knows whether one of these was written to.
type guard struct {
	lists, were   [][]uint32
	chains, stood [][]api.Batch
}

func (g *guard) list(l []uint32) []uint32 {
	full := append(slices.Clone(l), garbage, garbage, garbage)
	g.lists = append(g.lists, full)
	g.were = append(g.were, slices.Clone(full))
	return full[:len(l)]
}

func (g *guard) chain(l []api.Batch) []api.Batch {
	var full []api.Batch
	for _, b := range append(copyChain(l), batch(garbage, garbage), batch(garbage)) {
		full = append(full, api.Batch{Page: b.Page, Numbers: g.list(b.Numbers)})
	}
	g.chains = append(g.chains, full)
	g.stood = append(g.stood, copyChain(full))
	return full[:len(l)]
}

func (g *guard) need(n api.Need) api.Need {
	n.Chain, n.Held, n.Released = g.chain(n.Chain), g.list(n.Held), g.list(n.Released)
	return n
}

func (g *guard) plan(p api.Plan) api.Plan {
	p.Trees, p.Lists = g.list(p.Trees), g.chain(p.Lists)
	return p
}

// kept complains, if something was written to.
func (g *guard) kept(t *testing.T, what string) {
	t.Helper()
	same := slices.EqualFunc(g.lists, g.were, slices.Equal[[]uint32]) && slices.EqualFunc(g.chains, g.stood, sameChain)
	if !same {
		t.Fatal(what, "was changed")
	}
}

// spoil writes over all that was handed out.
func (g *guard) spoil() {
	for _, l := range g.lists {
		scribble(l)
	}
	for _, l := range g.chains {
		scribbleChain(l)
	}
}

// scribble writes over a list, spare room included.
func scribble(l []uint32) {
	l = l[:cap(l)]
	for i := range l {
		l[i] = 77
	}
}

func scribbleChain(l []api.Batch) {
	l = l[:cap(l)]
	for i := range l {
		scribble(l[i].Numbers)
		l[i] = batch(77, 77)
	}
}

// apart complains, if two of these lists share memory, spare room included.
func apart(t *testing.T, what string, lists ...[]uint32) {
	t.Helper()
	for i, l := range lists {
		l = l[:cap(l)]
		for j := range l {
			l[j] = uint32(i)
		}
	}
	for i, l := range lists {
		other := func(no uint32) bool { return no != uint32(i) }
		if slices.ContainsFunc(l[:cap(l)], other) {
			t.Fatal("two lists of", what, "share memory")
		}
	}
}

// numbersOf answers the lists of a chain.
func numbersOf(l []api.Batch) [][]uint32 {
	var lists [][]uint32
	for _, b := range l {
		lists = append(lists, b.Numbers)
	}
	return lists
}

// file is a file's pages by chance: who owns each from 2 on.
type file struct {
	pages uint32
	chain []api.Batch
	tree  []uint32
}

// anyFile answers a file with so many pages at most, and so many batches at most.
func anyFile(by *rand.Rand, f api.Frame, pages, batches int) file {
	x := file{pages: uint32(2 + by.Intn(pages-1))}
	numbers := run(2, int(x.pages)-2)
	by.Shuffle(len(numbers), func(i, j int) { numbers[i], numbers[j] = numbers[j], numbers[i] })
	for range min(by.Intn(batches+1), len(numbers)) {
		x.chain = append(x.chain, batch(numbers[0]))
		numbers = numbers[1:]
	}
	odds := by.Intn(5)
	for _, no := range numbers {
		i := by.Intn(len(x.chain) + 1)
		if i < len(x.chain) && by.Intn(4) < odds && len(x.chain[i].Numbers) < entries(f) {
			x.chain[i].Numbers = append(x.chain[i].Numbers, no)
			continue
		}
		x.tree = append(x.tree, no)
	}
	for i := range x.chain {
		slices.Sort(x.chain[i].Numbers)
	}
	return x
}

// some answers some of a list's numbers, in any order.
func some(by *rand.Rand, l []uint32) []uint32 {
	odds := by.Intn(5)
	var part []uint32
	for _, i := range by.Perm(len(l)) {
		if by.Intn(4) < odds {
			part = append(part, l[i])
		}
	}
	return part
}

// need answers a need of the file: nothing is wrong with it, but that it may want too much.
func (x file) need(by *rand.Rand) api.Need {
	n := api.Need{Chain: copyChain(x.chain), Pages: x.pages, Released: some(by, x.tree), Most: x.pages + uint32(by.Intn(12))}
	if by.Intn(2) > 0 {
		n.Held = slices.Concat(some(by, told(x.chain)), some(by, run(0, int(x.pages)+9)), []uint32{math.MaxUint32, most})
		n.Held = slices.Concat(n.Held, some(by, n.Held))
	}
	if by.Intn(4) > 0 {
		n.Trees = by.Intn(len(told(x.chain)) + 6)
	}
	return n
}
