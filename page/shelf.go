package page

import (
	"maps"
	"slices"

	"heartwood/api"
)

// Shelf is pages in memory. It is made by NewShelf alone.
type Shelf struct {
	frame api.Frame
	pages map[uint32]api.Page // by their numbers; nil, if NewShelf did not make it
}

// NewShelf makes a Shelf with these pages.
func NewShelf(f api.Frame, pages ...api.Page) (*Shelf, api.Errno) {
	if !May(f) {
		return nil, api.ErrArg
	}
	s := &Shelf{frame: f, pages: map[uint32]api.Page{}}
	for _, p := range pages {
		if e := Check(f, p); e != api.OK {
			return nil, e
		}
		if _, twice := s.pages[p.No]; twice {
			return nil, api.ErrTwice
		}
		s.pages[p.No] = p
	}
	return s, api.OK
}

func (s *Shelf) there() bool { return s != nil && s.pages != nil }

// Page answers the page of that number.
func (s *Shelf) Page(no uint32) (api.Page, api.Errno) {
	if !s.there() {
		return api.Page{}, api.ErrNil
	}
	p, has := s.pages[no]
	if !has {
		return api.Page{}, api.ErrNone
	}
	return p, api.OK
}

// Lay puts a page there, in the place of the one of its number.
func (s *Shelf) Lay(p api.Page) api.Errno {
	if !s.there() {
		return api.ErrNil
	}
	if e := Check(s.frame, p); e != api.OK {
		return e
	}
	s.pages[p.No] = p
	return api.OK
}

// Numbers tells the numbers of the pages, rising.
func (s *Shelf) Numbers() []uint32 {
	if !s.there() {
		return nil
	}
	return slices.Sorted(maps.Keys(s.pages))
}
