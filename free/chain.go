package free

import (
	"slices"

	"heartwood/api"
	"heartwood/page"
)

// owners are the numbers, in a file of so many pages, that somebody owns already.
type owners struct {
	frame api.Frame
	pages uint32
	had   map[uint32]struct{}
}

// own makes numbers owned, and tells whether each of them is counted and was not owned yet.
func (o owners) own(numbers ...uint32) bool {
	for _, no := range numbers {
		if _, twice := o.had[no]; twice || !counted(no, o.pages) {
			return false
		}
		o.had[no] = struct{}{}
	}
	return true
}

// ownBatch makes all that a batch names owned, and tells whether a right chain of those ahead stays right with it.
func (o owners) ownBatch(b api.Batch) bool {
	return fits(o.frame, b.Numbers, o.pages) && o.own(b.Page) && o.own(b.Numbers...)
}

// owned answers the owners that a right chain makes; else why there are none.
func owned(f api.Frame, chain []api.Batch, pages uint32) (owners, api.Errno) {
	if !page.May(f) || pages < api.FirstPage || pages > api.MaxPages {
		return owners{}, api.ErrArg
	}
	o := owners{f, pages, map[uint32]struct{}{}}
	for _, b := range chain {
		if !o.ownBatch(b) {
			return owners{}, api.ErrList
		}
	}
	return o, api.OK
}

// Check answers why a chain is not right for a file of so many pages, if so.
func Check(f api.Frame, chain []api.Batch, pages uint32) api.Errno {
	_, e := owned(f, chain, pages)
	return e
}

// After answers the chain that a plan makes of one.
func After(chain []api.Batch, p api.Plan) []api.Batch {
	opened := min(max(p.Opened, 0), len(chain))
	after := slices.Concat(p.Lists, chain[opened:])
	for i := range after {
		after[i].Numbers = slices.Clone(after[i].Numbers)
	}
	return after
}

// Lay answers a plan's list pages, as they are written at a version.
func Lay(f api.Frame, version uint64, chain []api.Batch, p api.Plan) ([]api.Page, api.Errno) {
	if version < 1 || version > api.MaxVersion || p.Opened < 0 || p.Opened > len(chain) {
		return nil, api.ErrArg
	}
	after := After(chain, p)
	if Check(f, after, p.Pages) != api.OK {
		return nil, api.ErrArg
	}
	var laid []api.Page
	for i, b := range after[:len(p.Lists)] {
		body, _ := Body(f, pageAt(after, i+1), b.Numbers...) // each batch of a right chain has one
		laid = append(laid, api.Page{Kind: api.PageList, No: b.Page, Version: version, Body: body})
	}
	return laid, api.OK
}

// pageAt answers the page of a chain's batch; 0, if it has none there.
func pageAt(chain []api.Batch, i int) uint32 {
	if i >= len(chain) {
		return 0
	}
	return chain[i].Page
}

// Read answers the chain that begins with a page, in a file of so many pages.
func Read(f api.Frame, p page.Pages, first, pages uint32) ([]api.Batch, api.Errno) {
	if p == nil {
		return nil, api.ErrNil
	}
	o, e := owned(f, nil, pages)
	if e != api.OK {
		return nil, e
	}
	var chain []api.Batch
	for next := first; next != 0; {
		var b api.Batch
		b, next, e = batchOn(f, p, next)
		if e != api.OK {
			return nil, e
		}
		// The owners are asked batch by batch: so a chain that comes back to itself ends, and one of many batches is not gone through for each of them.
		if !o.ownBatch(b) {
			return nil, api.ErrBad
		}
		chain = append(chain, b)
	}
	return chain, api.OK
}

// batchOn answers the batch that stands on a page, and the page of the next one.
func batchOn(f api.Frame, p page.Pages, no uint32) (b api.Batch, next uint32, e api.Errno) {
	list, e := p.Page(no)
	if e != api.OK {
		return api.Batch{}, 0, e
	}
	next, numbers, e := FromBody(f, list.Body)
	if e != api.OK || list.Kind != api.PageList {
		return api.Batch{}, 0, api.ErrBad
	}
	return api.Batch{Page: no, Numbers: numbers}, next, api.OK
}
