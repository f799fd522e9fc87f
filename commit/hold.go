package commit

import (
	"maps"
	"slices"

	"heartwood/api"
	"heartwood/trunk"
)

// hold is a version that is held: its tree's root and pages, and how many times it is held.
type hold struct {
	root  api.Root
	pages []uint32
	times int
}

// Hold holds the present version, and answers it.
func (f *File) Hold() (uint64, api.Errno) {
	if e := f.State(); e != api.OK {
		return 0, e
	}
	if f.holds() >= api.MaxHolds {
		return 0, api.ErrLong
	}
	version := f.meta.Version
	h, is := f.held[version]
	if !is {
		pages, e := f.pagesOf(f.meta.Root)
		if e != api.OK {
			return 0, e
		}
		h = hold{root: f.meta.Root, pages: pages}
	}
	h.times++
	f.held[version] = h
	return version, api.OK
}

// Again holds a version that is held once more.
func (f *File) Again(version uint64) api.Errno {
	h, e := f.holdOf(version)
	if e != api.OK {
		return e
	}
	if f.holds() >= api.MaxHolds {
		return api.ErrLong
	}
	h.times++
	f.held[version] = h
	return api.OK
}

// Drop takes one hold of a version away.
func (f *File) Drop(version uint64) api.Errno {
	h, e := f.holdOf(version)
	if e != api.OK {
		return e
	}
	h.times--
	f.held[version] = h
	if h.times == 0 {
		delete(f.held, version)
	}
	return api.OK
}

// holdOf answers the hold of a version.
func (f *File) holdOf(version uint64) (hold, api.Errno) {
	if e := f.State(); e != api.OK {
		return hold{}, e
	}
	h, is := f.held[version]
	if !is {
		return hold{}, api.ErrGone
	}
	return h, api.OK
}

// holds answers how many holds there are, of all versions together.
func (f *File) holds() int {
	all := 0
	for _, h := range f.held {
		all += h.times
	}
	return all
}

// Held answers the versions that are held, rising.
func (f *File) Held() []uint64 {
	if !f.there() {
		return nil
	}
	return slices.Sorted(maps.Keys(f.held))
}

// Tree answers the tree of the present version, or of one that is held.
func (f *File) Tree(version uint64) (*trunk.Tree, api.Errno) {
	if e := f.State(); e != api.OK {
		return nil, e
	}
	if version == f.meta.Version {
		return f.tree(f.meta.Root)
	}
	h, e := f.holdOf(version)
	if e != api.OK {
		return nil, e
	}
	return f.tree(h.root)
}

// tree answers the tree of a root over the file's nodes.
func (f *File) tree(r api.Root) (*trunk.Tree, api.Errno) {
	source, e := f.nodes()
	if e != api.OK {
		return nil, e
	}
	return trunk.New(f.config.Frame, source, r)
}

// pagesOf answers the pages of the tree of a root.
func (f *File) pagesOf(r api.Root) ([]uint32, api.Errno) {
	t, e := f.tree(r)
	if e != api.OK {
		return nil, e
	}
	return t.Pages()
}

// heldPages answers the pages of all held versions' trees, rising, each once.
func (f *File) heldPages() []uint32 {
	had := map[uint32]struct{}{}
	for _, h := range f.held {
		for _, no := range h.pages {
			had[no] = struct{}{}
		}
	}
	return slices.Sorted(maps.Keys(had))
}

// Lists answers the pages of the durable chain, in its order.
func (f *File) Lists() []uint32 {
	if !f.there() {
		return nil
	}
	var pages []uint32
	for _, b := range f.chain {
		pages = append(pages, b.Page)
	}
	return pages
}

// Free answers the free pages that no held version's tree has, rising.
func (f *File) Free() []uint32 { return f.freePages(false) }

// Kept answers the free pages that a held version's tree has, rising.
func (f *File) Kept() []uint32 { return f.freePages(true) }

// freePages answers the free pages that somebody holds, or those that nobody does, rising.
func (f *File) freePages(held bool) []uint32 {
	if !f.there() {
		return nil
	}
	holds := f.heldPages()
	var numbers []uint32
	for _, b := range f.chain {
		for _, no := range b.Numbers {
			if _, is := slices.BinarySearch(holds, no); is == held {
				numbers = append(numbers, no)
			}
		}
	}
	slices.Sort(numbers)
	return numbers
}
