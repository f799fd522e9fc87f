package disk

import (
	"slices"
	"strings"

	"heartwood/api"
)

// whole is the fate of a thing that has come with all its sectors.
const whole api.Fate = 1<<api.Sectors - 1

// waiting is a thing that waits, and of a write what was written.
type waiting struct {
	api.Waiting
	data string
}

// sheets are pages that lie one behind the other: those that are durable, or those that are seen.
type sheets struct {
	page  int // bytes of each of them
	pages []string
}

func (s *sheets) size() int { return len(s.pages) }

func (s *sheets) has(no uint32) bool { return uint64(no) < uint64(s.size()) }

func (s *sheets) read(no uint32) string { return s.pages[no] }

func (s *sheets) clone() sheets { return sheets{page: s.page, pages: slices.Clone(s.pages)} }

// extend lays pages of bytes 0 behind the others until there are so many.
func (s *sheets) extend(pages int) {
	if pages <= s.size() {
		return
	}
	blank := strings.Repeat("\x00", s.page)
	s.pages = append(s.pages, slices.Repeat([]string{blank}, pages-s.size())...)
}

// come does to the pages what is left of a thing that waits by its fate.
func (s *sheets) come(w waiting, fate api.Fate) {
	switch {
	case fate == 0:
	case w.Act == api.ActGrow:
		s.extend(w.Pages)
	default:
		s.extend(int(w.Page) + 1)
		s.pages[w.Page] = overlaid(s.pages[w.Page], w.data, fate)
	}
}

// overlaid answers a page over which the sectors in the mask were laid from another one.
func overlaid(under, over string, mask api.Fate) string {
	if mask == whole {
		return over
	}
	sector := len(under) / api.Sectors
	page := []byte(under)
	for s := range api.Sectors {
		if mask&(1<<s) != 0 {
			from, to := s*sector, (s+1)*sector
			copy(page[from:to], over[from:to])
		}
	}
	return string(page)
}
