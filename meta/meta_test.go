package meta_test

import (
	"encoding/binary"
	"hash/crc32"
	"math"
	"slices"
	"strings"
	"testing"

	"heartwood/api"
	"heartwood/meta"
)

// sizes are the four that a page may have.
func sizes() []int { return []int{1024, 2048, 4096, 8192} }

// frames are all that may be.
func frames() []api.Frame {
	var l []api.Frame
	for _, size := range sizes() {
		for width := 1; width <= 32; width++ {
			l = append(l, api.Frame{Page: size, Width: width})
		}
	}
	return l
}

// few are frames of all sizes, for what is much to do.
func few() []api.Frame {
	return []api.Frame{{Page: 1024, Width: 4}, {Page: 2048, Width: 1}, {Page: 4096, Width: 31}, {Page: 8192, Width: 32}}
}

// odd are frames that may not be.
func odd() []api.Frame {
	l := []api.Frame{{}}
	for _, size := range []int{math.MinInt, -1024, -1, 0, 1, 80, 512, 1000, 1023, 1025, 1536, 2047, 2049, 3072, 4095, 4097, 8191, 8193, 16384, 1 << 20, 1<<32 + 1024, math.MaxInt} {
		l = append(l, api.Frame{Page: size, Width: 1}, api.Frame{Page: size, Width: 32}, api.Frame{Page: size})
	}
	for _, width := range []int{math.MinInt, -32, -1, 0, 33, 64, 256, 257, 1 + 1<<32, math.MaxInt} {
		for _, size := range sizes() {
			l = append(l, api.Frame{Page: size, Width: width})
		}
	}
	return l
}

// digest answers a digest that fits a width just so: none of its bytes ahead of the width is 0.
func digest(width, seed int) api.Digest {
	var d api.Digest
	for i := range width {
		d[i] = byte(1 + (i*7+seed*31)%255)
	}
	return d
}

// record is the one out of which others are made by changing a field.
func record(f api.Frame) api.Meta {
	return api.Meta{Version: 7, Root: api.Root{Page: 3, Sum: digest(f.Width, 1), Count: 5, Version: 6}, List: 4, Pages: 9}
}

// with answers that record with something of it changed.
func with(f api.Frame, change func(m *api.Meta)) api.Meta {
	m := record(f)
	change(&m)
	return m
}

// records are records of a frame that may be.
func records(f api.Frame) []api.Meta {
	sum := digest(f.Width, 2)
	l := []api.Meta{
		record(f),
		{Version: 1, Pages: 2},
		{Version: 1, Root: api.Root{Sum: sum}, Pages: 2},
		{Version: 1 << 40, Root: api.Root{Sum: sum}, Pages: 65536},
		{Version: 2, Root: api.Root{Sum: sum}, List: 2, Pages: 3},
		{Version: 2, Root: api.Root{Sum: sum}, List: 65535, Pages: 65536},
		{Version: 1, Root: api.Root{Page: 2, Count: 1, Version: 1}, Pages: 3},
		{Version: 1, Root: api.Root{Page: 2, Sum: sum, Count: 1, Version: 1}, List: 3, Pages: 4},
		{Version: 0x0102030405, Root: api.Root{Page: 0x0607, Sum: sum, Count: 0x08090a0b0c0d0e0f, Version: 0x0101020304}, List: 0x1011, Pages: 0x1213},
		{Version: 1 << 40, Root: api.Root{Page: 65535, Sum: sum, Count: math.MaxUint64, Version: 1 << 40}, List: 65534, Pages: 65536},
		{Version: 1 << 40, Root: api.Root{Page: 65534, Sum: sum, Count: 1 << 63, Version: 1}, List: 65535, Pages: 65536},
		{Version: 1<<40 - 1, Root: api.Root{Page: 2, Sum: api.Digest{255}, Count: 2, Version: 255}, Pages: 65535},
	}
	last := api.Meta{Version: 9, Root: api.Root{Page: 2, Count: 3, Version: 9}, Pages: 3}
	last.Root.Sum[f.Width-1] = 1
	return append(l, last)
}

// wrong are records that may not be in a frame, by what is wrong with them.
func wrong(f api.Frame) map[string]api.Meta {
	bare := func(change func(m *api.Meta)) api.Meta {
		m := api.Meta{Version: 7, Root: api.Root{Sum: digest(f.Width, 3)}, Pages: 9}
		change(&m)
		return m
	}
	l := map[string]api.Meta{
		"nothing":                       {},
		"the empty version":             {Pages: 2},
		"Version 0":                     with(f, func(m *api.Meta) { m.Version, m.Root.Version = 0, 0 }),
		"Version 0 of the empty tree":   bare(func(m *api.Meta) { m.Version = 0 }),
		"Version 2^40 + 1":              with(f, func(m *api.Meta) { m.Version = 1<<40 + 1 }),
		"the greatest Version":          with(f, func(m *api.Meta) { m.Version = math.MaxUint64 }),
		"Pages 0":                       bare(func(m *api.Meta) { m.Pages = 0 }),
		"Pages 1":                       bare(func(m *api.Meta) { m.Pages = 1 }),
		"Pages 65537":                   with(f, func(m *api.Meta) { m.Pages = 65537 }),
		"the most Pages":                with(f, func(m *api.Meta) { m.Pages = math.MaxUint32 }),
		"Root.Page 1":                   with(f, func(m *api.Meta) { m.Root.Page = 1 }),
		"Root.Page as Pages":            with(f, func(m *api.Meta) { m.Root.Page = 9 }),
		"Root.Page above Pages":         with(f, func(m *api.Meta) { m.Root.Page = 10 }),
		"a dirty Root.Page":             with(f, func(m *api.Meta) { m.Root.Page = 1 << 31 }),
		"List 1":                        with(f, func(m *api.Meta) { m.List = 1 }),
		"List as Pages":                 with(f, func(m *api.Meta) { m.List = 9 }),
		"List above Pages":              with(f, func(m *api.Meta) { m.List = 10 }),
		"the greatest List":             with(f, func(m *api.Meta) { m.List = math.MaxUint32 }),
		"one page twice":                with(f, func(m *api.Meta) { m.List = 3 }),
		"Root.Page 0 with all else":     with(f, func(m *api.Meta) { m.Root.Page = 0 }),
		"no page, but pairs":            bare(func(m *api.Meta) { m.Root.Count = 1 }),
		"no page, but a version":        bare(func(m *api.Meta) { m.Root.Version = 1 }),
		"a page, but no pair":           with(f, func(m *api.Meta) { m.Root.Count = 0 }),
		"Root.Version 0":                with(f, func(m *api.Meta) { m.Root.Version = 0 }),
		"Root.Version above Version":    with(f, func(m *api.Meta) { m.Root.Version = 8 }),
		"the greatest Root.Version":     with(f, func(m *api.Meta) { m.Root.Version = math.MaxUint64 }),
		"a page in a file of two pages": with(f, func(m *api.Meta) { m.Root.Page, m.List, m.Pages = 2, 0, 2 }),
		"a list in a file of two pages": bare(func(m *api.Meta) { m.List, m.Pages = 2, 2 }),
	}
	if f.Width < 32 {
		l["a Sum that is a byte too long"] = with(f, func(m *api.Meta) { m.Root.Sum[f.Width] = 1 })
		l["a Sum whose last byte is not 0"] = with(f, func(m *api.Meta) { m.Root.Sum[31] = 128 })
		l["a Sum too long of the empty tree"] = bare(func(m *api.Meta) { m.Root.Sum = api.Digest{}; m.Root.Sum[f.Width] = 255 })
	}
	return l
}

// may tells whether a record of a frame may be, in another way than the program does: by what is wrong with it.
func may(f api.Frame, m api.Meta) bool {
	if !slices.Contains(sizes(), f.Page) || f.Width < 1 || f.Width > 32 {
		return false
	}
	for _, no := range []uint32{m.Root.Page, m.List} {
		if no == 1 || no != 0 && no >= m.Pages {
			return false
		}
	}
	if m.Root.Page == m.List && m.List != 0 || strings.Trim(string(m.Root.Sum[f.Width:]), "\x00") != "" {
		return false
	}
	if m.Version == 0 || m.Version > 1<<40 || m.Pages < 2 || m.Pages > 65536 {
		return false
	}
	if (m.Root.Page == 0) != (m.Root.Count == 0) || (m.Root.Page == 0) != (m.Root.Version == 0) {
		return false
	}
	return m.Root.Version <= m.Version
}

// logs are what stands in a record for each size.
func logs() map[int]byte { return map[int]byte{1024: 10, 2048: 11, 4096: 12, 8192: 13} }

// raw lays a record's page by the chapter's table, in another way than the program does; it lays records that may not be, too.
func raw(f api.Frame, m api.Meta) []byte {
	b := make([]byte, f.Page)
	copy(b, "\x68\x77\x6d\x31")
	b[4], b[5] = logs()[f.Page], byte(f.Width)
	binary.BigEndian.PutUint64(b[8:], m.Version)
	binary.BigEndian.PutUint64(b[16:], m.Root.Count)
	binary.BigEndian.PutUint64(b[24:], m.Root.Version)
	binary.BigEndian.PutUint32(b[32:], m.Root.Page)
	binary.BigEndian.PutUint32(b[36:], m.List)
	binary.BigEndian.PutUint32(b[40:], m.Pages)
	copy(b[44:], m.Root.Sum[:])
	return b
}

// summed answers these bytes with the sum in them made right.
func summed(b []byte) string {
	b = slices.Clone(b)
	binary.BigEndian.PutUint32(b[76:], crc32.ChecksumIEEE(b[:76]))
	return string(b)
}

// laid answers a record's page, by raw and summed.
func laid(f api.Frame, m api.Meta) string { return summed(raw(f, m)) }

// turned answers a page with one byte made another one.
func turned(s string, at int, to byte) string { return s[:at] + string([]byte{to}) + s[at+1:] }

// noughts answers so many bytes 0.
func noughts(n int) string { return strings.Repeat("\x00", n) }

// checked complains, if Check and Encode do not both answer so of a record, or Encode answers another page than raw lays.
func checked(t *testing.T, what string, f api.Frame, m api.Meta, want api.Errno) {
	t.Helper()
	was := m
	if e := meta.Check(f, m); e != want {
		t.Fatalf("Check of %s, %v %+v: %v, and not %v", what, f, m, e, want)
	}
	page := ""
	if want == api.OK {
		page = laid(f, m)
	}
	if s, e := meta.Encode(f, m); e != want || s != page {
		t.Fatalf("Encode of %s, %v %+v: %x.. (%d bytes), %v, and not %v", what, f, m, s[:min(80, len(s))], len(s), e, want)
	}
	if m != was {
		t.Fatalf("%s is another one now", what)
	}
}

// code answers OK or ErrArg.
func code(ok bool) api.Errno {
	if ok {
		return api.OK
	}
	return api.ErrArg
}

// 6.1 and 6.2: what may be is taken, and its page is that of the table.
func TestRecordsThatMayBe(t *testing.T) {
	for _, f := range frames() {
		for _, m := range records(f) {
			checked(t, "a record", f, m, api.OK)
			if !may(f, m) {
				t.Fatalf("%v %+v may not be by the other reckoning", f, m)
			}
		}
	}
}

func TestRecordsThatMayNotBe(t *testing.T) {
	for _, f := range frames() {
		for what, m := range wrong(f) {
			checked(t, what, f, m, api.ErrArg)
			if may(f, m) {
				t.Fatalf("%s: %v %+v may be by the other reckoning", what, f, m)
			}
		}
	}
}

func TestFramesThatMayNotBe(t *testing.T) {
	for _, f := range odd() {
		for _, m := range append(records(few()[0]), records(few()[3])...) {
			checked(t, "a frame that may not be", f, m, api.ErrArg)
		}
		checked(t, "a frame that may not be", f, api.Meta{}, api.ErrArg)
	}
	m := api.Meta{Version: 1, Pages: 2}
	for size := -10; size < 10000; size++ {
		checked(t, "a size", api.Frame{Page: size, Width: 7}, m, code(slices.Contains(sizes(), size)))
	}
	for width := -40; width < 600; width++ {
		checked(t, "a width", api.Frame{Page: 2048, Width: width}, m, code(width >= 1 && width <= 32))
	}
}

// Each of the edges by itself, with what is asked of it told outright.
func TestEdges(t *testing.T) {
	for _, f := range frames() {
		for version, ok := range map[uint64]bool{0: false, 1: true, 2: true, 1<<40 - 1: true, 1 << 40: true, 1<<40 + 1: false} {
			checked(t, "a version", f, api.Meta{Version: version, Pages: 2}, code(ok))
			checked(t, "a version", f, with(f, func(m *api.Meta) { m.Version, m.Root.Version = version, min(1, version) }), code(ok))
			checked(t, "a root's version", f, with(f, func(m *api.Meta) { m.Version, m.Root.Version = 1<<40, version }), code(ok))
		}
		for pages, ok := range map[uint32]bool{0: false, 1: false, 2: true, 3: true, 65535: true, 65536: true, 65537: false} {
			checked(t, "a count", f, api.Meta{Version: 1, Pages: pages}, code(ok))
		}
		for version, ok := range map[uint64]bool{0: false, 1: true, 6: true, 7: true, 8: false} {
			checked(t, "a root's version", f, with(f, func(m *api.Meta) { m.Root.Version = version }), code(ok))
		}
		for count, ok := range map[uint64]bool{0: false, 1: true, math.MaxUint64: true} {
			checked(t, "a page's pairs", f, with(f, func(m *api.Meta) { m.Root.Count = count }), code(ok))
			checked(t, "no page's pairs", f, api.Meta{Version: 1, Root: api.Root{Count: count}, Pages: 2}, code(count == 0))
		}
		for at := range 32 {
			checked(t, "a sum", f, with(f, func(m *api.Meta) { m.Root.Sum = api.Digest{}; m.Root.Sum[at] = 1 }), code(at < f.Width))
			checked(t, "an empty tree's sum", f, api.Meta{Version: 1, Root: api.Root{Sum: digest(at+1, 4)}, Pages: 2}, code(at < f.Width))
		}
	}
}

// The pages that a record names, each beside each.
func TestEdgesOfPages(t *testing.T) {
	f := few()[0]
	for _, pages := range []uint32{2, 3, 4, 5, 300, 65535, 65536} {
		all := []uint32{0, 1, 2, 3, pages - 2, pages - 1, pages, pages + 1, 65536, 1 << 31, math.MaxUint32}
		for _, root := range all {
			for _, list := range all {
				m := api.Meta{Version: 5, Root: api.Root{Page: root, Sum: digest(4, 5), Count: 3, Version: 2}, List: list, Pages: pages}
				if root == 0 {
					m.Root.Count, m.Root.Version = 0, 0
				}
				there := func(no uint32) bool { return no == 0 || no > 1 && no < pages }
				checked(t, "pages", f, m, code(there(root) && there(list) && (root != list || root == 0)))
			}
		}
	}
}

// All mixtures of edges, held against the other reckoning.
func TestMixturesOfEdges(t *testing.T) {
	t.Parallel()
	f := api.Frame{Page: 1024, Width: 4}
	some := 0
	for _, version := range []uint64{0, 1, 2, 1 << 40, 1<<40 + 1} {
		for _, pages := range []uint32{0, 1, 2, 3, 4, 65536, 65537} {
			for _, root := range []uint32{0, 1, 2, 3, pages - 1, pages} {
				for _, list := range []uint32{0, 1, 2, 3, pages - 1, pages} {
					for _, count := range []uint64{0, 1, math.MaxUint64} {
						for _, laidAt := range []uint64{0, 1, version, version + 1} {
							for _, sum := range []api.Digest{{}, {1, 2, 3, 4}, {4: 1}, {31: 1}} {
								m := api.Meta{Version: version, Root: api.Root{Page: root, Sum: sum, Count: count, Version: laidAt}, List: list, Pages: pages}
								checked(t, "a mixture", f, m, code(may(f, m)))
								if may(f, m) {
									some++
								}
							}
						}
					}
				}
			}
		}
	}
	if some < 500 {
		t.Error("too few of them may be:", some)
	}
}
