package page

import (
	"strings"

	"heartwood/api"
	"heartwood/pack"
	"heartwood/sums"
)

const (
	mark         = "HWPG"
	formNo uint8 = 1
	sumAt        = 28 // the place of the sum, the last that stands ahead of the body
	filler       = "\x00"
)

// Write answers a page's form.
func Write(f api.Frame, p api.Page) (string, api.Errno) {
	if e := Check(f, p); e != api.OK {
		return "", e
	}
	ahead := head(p)
	behind := p.Body + strings.Repeat(filler, f.Room()-len(p.Body))
	w := pack.New()
	w.Raw(ahead)
	pack.Put(w, sums.CRC(ahead, behind))
	w.Raw(behind)
	return w.String(), api.OK
}

// head answers what stands ahead of the sum in a page's form.
func head(p api.Page) string {
	w := pack.New()
	w.Raw(mark)
	pack.Put(w, formNo)
	pack.Put(w, p.Kind)
	pack.Put(w, uint16(len(p.Body)))
	pack.Put(w, p.No)
	pack.Put(w, uint32(0))
	pack.Put(w, p.Version)
	pack.Put(w, uint32(0))
	return w.String()
}

// Read answers the page whose form s is.
func Read(f api.Frame, s string) (api.Page, api.Errno) {
	if !May(f) {
		return api.Page{}, api.ErrArg
	}
	if len(s) != f.Page {
		return api.Page{}, api.ErrShort
	}
	if !whole(s) {
		return api.Page{}, api.ErrCrc
	}
	p, laid := parse(s)
	if !laid || Check(f, p) != api.OK {
		return api.Page{}, api.ErrNoPage
	}
	return p, api.OK
}

// whole tells whether the sum that stands in s is that of all else in it.
func whole(s string) bool {
	stands := pack.Take[uint32](pack.Open(s[sumAt:]))
	return stands == sums.CRC(s[:sumAt], s[api.HeadSize:])
}

// parse answers the page that s speaks of, and whether it is laid in s as a form lays it. That the sum is right, and that the page may be, is not asked here.
func parse(s string) (p api.Page, laid bool) {
	r := pack.Open(s)
	r.Raw(len(mark) + 1) // these, and the noughts, are held against those of the page's own head below
	p.Kind = pack.Take[api.PageKind](r)
	length := int(pack.Take[uint16](r))
	p.No = pack.Take[uint32](r)
	r.Raw(4)
	p.Version = pack.Take[uint64](r)
	r.Raw(4 + 4)
	p.Body = r.Raw(length) // none, if it would be longer than what is left: then the head tells another length
	rest := r.Raw(r.Left())
	return p, s[:sumAt] == head(p) && strings.Count(rest, filler) == len(rest)
}

// Open answers the page whose form s is, if it has that number.
func Open(f api.Frame, no uint32, s string) (api.Page, api.Errno) {
	p, e := Read(f, s)
	if e != api.OK {
		return api.Page{}, e
	}
	if p.No != no {
		return api.Page{}, api.ErrNumber
	}
	return p, api.OK
}
