package free_test

import (
	"slices"

	"heartwood/api"
)

// What each call is to answer, by the words of the chapter and in another way than the program finds it.

func mayBe(f api.Frame) bool {
	return slices.Contains([]int{1024, 2048, 4096, 8192}, f.Page) && f.Width > 0 && f.Width < 33
}

func dueBody(f api.Frame, next uint32, numbers ...uint32) (string, api.Errno) {
	all := slices.Clone(numbers)
	if next != 0 {
		all = append(all, next)
	}
	out := slices.ContainsFunc(all, func(no uint32) bool { return no < 2 || no > most-1 })
	rising := slices.Equal(numbers, slices.Compact(sorted(numbers)))
	if !mayBe(f) || out || !rising || len(numbers) > entries(f) {
		return "", api.ErrArg
	}
	return form(next, numbers...), api.OK
}

// dueRight tells whether a chain is right for a count.
func dueRight(f api.Frame, l []api.Batch, pages uint32) bool {
	for _, b := range l {
		if len(b.Numbers) > entries(f) || !slices.Equal(b.Numbers, slices.Compact(sorted(b.Numbers))) {
			return false
		}
	}
	all := sorted(named(l))
	if len(all) == 0 {
		return true
	}
	return all[0] >= 2 && all[len(all)-1] < pages && len(slices.Compact(slices.Clone(all))) == len(all)
}

func dueCheck(f api.Frame, l []api.Batch, pages uint32) api.Errno {
	switch {
	case !mayBe(f) || pages < 2 || pages > most:
		return api.ErrArg
	case !dueRight(f, l, pages):
		return api.ErrList
	}
	return api.OK
}

// dueNeed answers what is wrong with a need, but that it wants too much.
func dueNeed(f api.Frame, n api.Need) api.Errno {
	if !mayBe(f) || n.Pages < 2 || n.Pages > most || n.Most < n.Pages || n.Most > most || n.Trees < 0 {
		return api.ErrArg
	}
	// The released ones are right, if each can stand in a chain as the page of an empty batch.
	l := copyChain(n.Chain)
	for _, no := range n.Released {
		l = append(l, batch(no))
	}
	return dueCheck(f, l, n.Pages)
}

// duePlan tries numbers of list pages, one behind the other, each from the very beginning.
func duePlan(f api.Frame, n api.Need) (api.Plan, api.Errno) {
	if e := dueNeed(f, n); e != api.OK {
		return api.Plan{}, e
	}
	for k := 0; ; k++ {
		p, enough, e := planWith(f, n, k)
		if e != api.OK || enough {
			return p, e
		}
	}
}

// taking is what was taken of a need so far.
type taking struct {
	api.Need
	end   uint32
	taken []uint32
}

// least answers the least number of a list that is neither held nor taken; 0, if there is none.
func (x *taking) least(l []uint32) uint32 {
	for _, no := range sorted(l) {
		if !slices.Contains(x.Held, no) && !slices.Contains(x.taken, no) {
			return no
		}
	}
	return 0
}

// take takes a number: the end, if it is 0. It answers 0, if there is no room.
func (x *taking) take(no uint32) uint32 {
	if no == 0 {
		if x.end == x.Most {
			return 0
		}
		no = x.end
		x.end++
	}
	x.taken = append(x.taken, no)
	return no
}

// planWith answers the plan with k list pages, and whether they are enough.
func planWith(f api.Frame, n api.Need, k int) (api.Plan, bool, api.Errno) {
	x := &taking{Need: n, end: n.Pages}
	var p api.Plan
	for range n.Trees {
		at, no := 0, uint32(0)
		for at < len(n.Chain) && no == 0 {
			no = x.least(n.Chain[at].Numbers)
			at++
		}
		if no != 0 {
			p.Opened = at
		}
		if no = x.take(no); no == 0 {
			return api.Plan{}, false, api.ErrFull
		}
		p.Trees = append(p.Trees, no)
	}
	for range k {
		no := x.least(told(n.Chain[:p.Opened]))
		for no == 0 && p.Opened < len(n.Chain) {
			p.Opened++
			no = x.least(told(n.Chain[:p.Opened]))
		}
		if no = x.take(no); no == 0 {
			return api.Plan{}, false, api.ErrFull
		}
		p.Lists = append(p.Lists, batch(no))
	}
	p.Pages = x.end
	loose := sorted(named(n.Chain[:p.Opened]), n.Released)
	loose = slices.DeleteFunc(loose, func(no uint32) bool { return slices.Contains(x.taken, no) })
	for i, no := range loose {
		if i/entries(f) == k {
			return api.Plan{}, false, api.OK
		}
		b := &p.Lists[i/entries(f)]
		b.Numbers = append(b.Numbers, no)
	}
	return p, true, api.OK
}

func dueAfter(l []api.Batch, p api.Plan) []api.Batch {
	after := copyChain(p.Lists)
	for i, b := range copyChain(l) {
		if i >= p.Opened {
			after = append(after, b)
		}
	}
	return after
}

func dueLay(f api.Frame, version uint64, l []api.Batch, p api.Plan) ([]api.Page, api.Errno) {
	after := dueAfter(l, p)
	if version == 0 || version > newest || p.Opened < 0 || p.Opened > len(l) || dueCheck(f, after, p.Pages) != api.OK {
		return nil, api.ErrArg
	}
	next := append(pagesOf(after), 0)[1:]
	var laid []api.Page
	for i, b := range p.Lists {
		laid = append(laid, api.Page{Kind: api.PageList, No: b.Page, Version: version, Body: form(next[i], b.Numbers...)})
	}
	return laid, api.OK
}
