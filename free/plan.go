package free

import (
	"maps"
	"slices"

	"heartwood/api"
)

// Plan answers what a commit takes.
func Plan(f api.Frame, n api.Need) (api.Plan, api.Errno) {
	if e := asked(f, n); e != api.OK {
		return api.Plan{}, e
	}
	m := begun(n)
	trees, e := m.trees(n.Trees)
	if e != api.OK {
		return api.Plan{}, e
	}
	lists, e := m.lists(Entries(f))
	if e != api.OK {
		return api.Plan{}, e
	}
	return api.Plan{Trees: trees, Lists: lists, Opened: m.opened, Pages: m.end}, api.OK
}

// asked answers why a need may not be, if so.
func asked(f api.Frame, n api.Need) api.Errno {
	if n.Most < n.Pages || n.Most > api.MaxPages || n.Trees < 0 {
		return api.ErrArg
	}
	o, e := owned(f, n.Chain, n.Pages)
	switch {
	case e != api.OK:
		return e
	case !o.own(n.Released...):
		return api.ErrList
	}
	return api.OK
}

// spare is a free number that can be taken, and the place of its batch in the chain.
type spare struct {
	no    uint32
	batch int
}

// making is a plan that is being made.
type making struct {
	chain     []api.Batch
	spares    []spare // in the order in which they are taken; those that were are gone
	opened    int
	loose     map[uint32]struct{}
	end, most uint32
}

// begun answers the plan of a need of which nothing is taken yet.
func begun(n api.Need) *making {
	m := &making{chain: n.Chain, loose: map[uint32]struct{}{}, end: n.Pages, most: n.Most}
	held := map[uint32]struct{}{}
	for _, no := range n.Held {
		held[no] = struct{}{}
	}
	for i, b := range n.Chain {
		for _, no := range b.Numbers {
			if _, is := held[no]; !is {
				m.spares = append(m.spares, spare{no, i})
			}
		}
	}
	m.loosen(n.Released...)
	return m
}

// loosen makes numbers loose.
func (m *making) loosen(numbers ...uint32) {
	for _, no := range numbers {
		m.loose[no] = struct{}{}
	}
}

// open opens the next batch.
func (m *making) open() {
	b := m.chain[m.opened]
	m.loosen(b.Page)
	m.loosen(b.Numbers...)
	m.opened++
}

// takeSpare takes the next spare number, whose batch is opened.
func (m *making) takeSpare() uint32 {
	no := m.spares[0].no
	m.spares = m.spares[1:]
	delete(m.loose, no)
	return no
}

// takeEnd takes the end.
func (m *making) takeEnd() (uint32, api.Errno) {
	if m.end == m.most {
		return 0, api.ErrFull
	}
	m.end++
	return m.end - 1, api.OK
}

// trees takes so many pages for the tree. It ends, however many are asked for: no number is taken twice, and the end is never beyond Most.
func (m *making) trees(many int) ([]uint32, api.Errno) {
	var taken []uint32
	for range many {
		no, e := m.tree()
		if e != api.OK {
			return nil, e
		}
		taken = append(taken, no)
	}
	return taken, api.OK
}

// tree takes a page for the tree. Batches are opened as far as a number is taken of one, and no further.
func (m *making) tree() (uint32, api.Errno) {
	if len(m.spares) == 0 {
		return m.takeEnd()
	}
	for m.opened <= m.spares[0].batch {
		m.open()
	}
	return m.takeSpare(), api.OK
}

// lists takes the new list pages, and cuts what is loose then into pieces for them.
func (m *making) lists(entries int) ([]api.Batch, api.Errno) {
	var lists []api.Batch
	for len(m.loose) > len(lists)*entries {
		no, e := m.list()
		if e != api.OK {
			return nil, e
		}
		lists = append(lists, api.Batch{Page: no})
	}
	rest := slices.Sorted(maps.Keys(m.loose))
	for i := range lists {
		many := min(entries, len(rest))
		// A piece ends where the next one begins, spare room included: they are lists of their own.
		lists[i].Numbers, rest = rest[:many:many], rest[many:]
	}
	return lists, api.OK
}

// list takes a new list page. A batch that is looked into is opened, even if all its numbers turn out to be held.
func (m *making) list() (uint32, api.Errno) {
batches:
	for {
		switch {
		case len(m.spares) > 0 && m.spares[0].batch < m.opened:
			break batches
		case m.opened == len(m.chain):
			return m.takeEnd()
		}
		m.open()
	}
	return m.takeSpare(), api.OK
}
