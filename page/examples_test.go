package page_test

import (
	"slices"
	"strings"
	"testing"

	"heartwood/api"
	"heartwood/page"
)

// The chapter's table, row by row.
func TestExamples(t *testing.T) {
	f := api.Frame{Page: 1024, Width: 32}
	p := api.Page{Kind: 1, No: 2, Version: 1, Body: "ab"}
	if !page.May(f) || page.May(api.Frame{Page: 1000, Width: 32}) || page.May(api.Frame{Page: 1024}) || page.May(api.Frame{Page: 8192, Width: 33}) {
		t.Error("May")
	}

	s, e := page.Write(f, p)
	ahead := "\x48\x57\x50\x47\x01\x01\x00\x02\x00\x00\x00\x02\x00\x00\x00\x00" + "\x00\x00\x00\x00\x00\x00\x00\x01\x00\x00\x00\x00"
	if e != api.OK || len(s) != 1024 || s[:28] != ahead || s[32:35] != "\x61\x62\x00" {
		t.Fatalf("Write: %x, %v", s[:min(40, len(s))], e)
	}

	q, e := page.Read(f, s)
	gives(t, "Read", q, e, p, api.OK)
	q, e = page.Read(f, s[:1023])
	refuses(t, "Read without the last byte", q, e, api.ErrShort)
	q, e = page.Read(f, s[:1023]+"\x01")
	refuses(t, "Read with another last byte", q, e, api.ErrCrc)
	q, e = page.Open(f, 2, s)
	gives(t, "Open", q, e, p, api.OK)
	q, e = page.Open(f, 3, s)
	refuses(t, "Open of another number", q, e, api.ErrNumber)

	with := func(change func(p *api.Page)) api.Errno {
		q := p
		change(&q)
		return page.Check(f, q)
	}
	got := []api.Errno{
		with(func(p *api.Page) { p.Kind, p.No = 0, 1 }),
		with(func(p *api.Page) { p.No = 1 }),
		with(func(p *api.Page) { p.No = 1 << 31 }),
		with(func(p *api.Page) { p.Version = 0 }),
		with(func(p *api.Page) { p.Body = strings.Repeat("x", 993) }),
		with(func(p *api.Page) { p.Body = strings.Repeat("x", 992) }),
	}
	if want := []api.Errno{api.ErrKind, api.ErrArg, api.ErrArg, api.ErrArg, api.ErrLong, api.OK}; !slices.Equal(got, want) {
		t.Errorf("Check: %v, and not %v", got, want)
	}

	q, e = page.Read(f, strings.Repeat("\x00", 1024))
	refuses(t, "Read of 1024 bytes 0", q, e, api.ErrCrc)
	q, e = page.Read(f, strings.Repeat("\x00", 1023))
	refuses(t, "Read of 1023 bytes 0", q, e, api.ErrShort)

	if x, e := page.NewShelf(f, p, p); x != nil || e != api.ErrTwice {
		t.Error("NewShelf:", e)
	}
	x := shelf(t, f, p)
	q, e = x.Page(2)
	gives(t, "Page(2)", q, e, p, api.OK)
	q, e = x.Page(3)
	refuses(t, "Page(3)", q, e, api.ErrNone)
	if l := x.Numbers(); !slices.Equal(l, []uint32{2}) {
		t.Error("Numbers:", l)
	}

	if o, e := page.Over(f, nil); o != nil || e != api.ErrNil {
		t.Error("Over(f, nil):", e)
	}
	if o, e := page.Over(api.Frame{}, nil); o != nil || e != api.ErrArg {
		t.Error("Over of the zero frame:", e)
	}
}
