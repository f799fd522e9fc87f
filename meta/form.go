package meta

import (
	"math/bits"
	"strings"

	"heartwood/api"
	"heartwood/pack"
	"heartwood/sums"
)

const mark = "hwm1"

// form answers the bytes of a record of a frame; both may be.
func form(f api.Frame, m api.Meta) string {
	w := pack.New()
	w.Raw(mark)
	pack.Put(w, uint8(bits.TrailingZeros(uint(f.Page))))
	pack.Put(w, uint8(f.Width))
	pack.Put(w, uint16(0))
	pack.Put(w, m.Version)
	pack.Put(w, m.Root.Count)
	pack.Put(w, m.Root.Version)
	pack.Put(w, m.Root.Page)
	pack.Put(w, m.List)
	pack.Put(w, m.Pages)
	w.Digest(api.MaxWidth, m.Root.Sum)
	pack.Put(w, sums.CRC(w.String()))
	return w.String()
}

// filled answers s with noughts behind it, so many bytes in all.
func filled(s string, n int) string { return s + strings.Repeat("\x00", n-len(s)) }

// parse answers the record of which a sector speaks, and its frame, and whether both may be and the sector is theirs byte for byte.
func parse(sector string) (f api.Frame, m api.Meta, laid bool) {
	r := pack.Open(sector)
	r.Raw(len(mark)) // this, the noughts and the sum are held against those of the record's own form below
	f.Page = 1 << pack.Take[uint8](r)
	f.Width = int(pack.Take[uint8](r))
	r.Raw(2)
	m.Version = pack.Take[uint64](r)
	m.Root.Count = pack.Take[uint64](r)
	m.Root.Version = pack.Take[uint64](r)
	m.Root.Page = pack.Take[uint32](r)
	m.List = pack.Take[uint32](r)
	m.Pages = pack.Take[uint32](r)
	m.Root.Sum = r.Digest(api.MaxWidth)
	laid = Check(f, m) == api.OK && sector == filled(form(f, m), len(sector))
	return f, m, laid
}
