package page_test

import (
	"math"
	"slices"
	"testing"

	"heartwood/api"
	"heartwood/disk"
	"heartwood/page"
)

// block is what blocks answer at a number.
type block struct {
	text string
	e    api.Errno
}

// blocks answer what stands under a number, ErrPage where there is nothing, and keep what they were asked.
type blocks struct {
	at    map[uint32]block
	asked []uint32
}

func (b *blocks) Read(no uint32) (string, api.Errno) {
	b.asked = append(b.asked, no)
	x, has := b.at[no]
	if !has {
		return "", api.ErrPage
	}
	return x.text, x.e
}

// over answers Sheets over b.
func over(t *testing.T, f api.Frame, b page.Blocks) *page.Sheets {
	t.Helper()
	s, e := page.Over(f, b)
	if e != api.OK || s == nil {
		t.Fatalf("Over(%v): %v", f, e)
	}
	return s
}

func TestOverRefuses(t *testing.T) {
	b := &blocks{}
	for _, f := range odd() {
		for _, x := range []page.Blocks{nil, b} {
			if s, e := page.Over(f, x); s != nil || e != api.ErrArg {
				t.Errorf("Over(%v): %v", f, e)
			}
		}
	}
	for _, f := range frames() {
		if s, e := page.Over(f, nil); s != nil || e != api.ErrNil {
			t.Errorf("Over(%v, nil): %v", f, e)
		}
		over(t, f, b)
	}
	if len(b.asked) != 0 {
		t.Error("Over asked", b.asked)
	}
}

func TestSheetsOpenWhatBlocksAnswer(t *testing.T) {
	for _, f := range few() {
		p := api.Page{Kind: api.PageBranch, No: 7, Version: 4, Body: mixed(f.Page-32, 1)}
		last := api.Page{Kind: api.PageList, No: 1<<31 - 1, Version: 1 << 40}
		form := laid(f.Page, p)
		b := &blocks{at: map[uint32]block{
			7:         {text: form},
			8:         {text: form},
			9:         {text: form, e: api.ErrIO},
			10:        {e: api.ErrOff},
			11:        {text: form[1:]},
			12:        {text: form + "\x00"},
			13:        {},
			14:        {text: mixed(f.Page, 2)},
			15:        {text: changed(f.Page, p, 0, 'X')},
			16:        {text: form, e: -5},
			17:        {e: math.MaxInt},
			1<<31 - 1: {text: laid(f.Page, last)},
		}}
		s := over(t, f, b)
		for no, want := range map[uint32]api.Errno{7: api.OK, 8: api.ErrNumber, 9: api.ErrIO, 10: api.ErrOff, 11: api.ErrShort, 12: api.ErrShort, 13: api.ErrShort, 14: api.ErrCrc, 15: api.ErrNoPage, 16: -5, 17: math.MaxInt, 2: api.ErrPage, 3: api.ErrPage, 1<<31 - 1: api.OK, 1<<31 - 2: api.ErrPage} {
			for range 2 {
				b.asked = nil
				q, e := s.Page(no)
				page := api.Page{}
				if want == api.OK && no == 7 {
					page = p
				} else if want == api.OK {
					page = last
				}
				gives(t, "Page", q, e, page, want)
				if !slices.Equal(b.asked, []uint32{no}) {
					t.Fatalf("Page(%d) asked %d", no, b.asked)
				}
			}
		}
	}
}

func TestSheetsAskNothingWhereNoPageMayBe(t *testing.T) {
	for _, f := range few() {
		b := &blocks{at: map[uint32]block{}}
		numbers := []uint32{0, 1, 1 << 31, 1<<31 + 1, 1<<31 + 2, math.MaxUint32}
		for _, no := range numbers {
			b.at[no] = block{text: laid(f.Page, api.Page{Kind: 1, No: no, Version: 1})}
		}
		s := over(t, f, b)
		for _, no := range numbers {
			p, e := s.Page(no)
			refuses(t, "Page", p, e, api.ErrArg)
		}
		if len(b.asked) != 0 {
			t.Error("asked", b.asked)
		}
	}
}

// Nothing is kept: what the blocks answer anew is what is told.
func TestSheetsKeepNothing(t *testing.T) {
	f := api.Frame{Page: 1024, Width: 9}
	b := &blocks{at: map[uint32]block{}}
	s := over(t, f, b)
	for version := uint64(1); version < 20; version++ {
		p := api.Page{Kind: api.PageKind(1 + version%3), No: 6, Version: version, Body: mixed(int(version), 3)}
		b.at[6] = block{text: laid(f.Page, p)}
		q, e := s.Page(6)
		gives(t, "Page", q, e, p, api.OK)
		b.at[6] = block{e: api.ErrIO}
		q, e = s.Page(6)
		refuses(t, "Page", q, e, api.ErrIO)
	}
	if len(b.asked) != 2*19 {
		t.Error("asked", len(b.asked), "times")
	}
}

// A disk is blocks: a page that came to it in part is told by its sum.
func TestSheetsOverADisk(t *testing.T) {
	for _, f := range few() {
		d, _ := disk.New(f.Page, 8)
		s := over(t, f, d)
		p := api.Page{Kind: api.PageLeaf, No: 3, Version: 1, Body: mixed(f.Page-32, 1)}
		q := api.Page{Kind: api.PageLeaf, No: 3, Version: 2, Body: mixed(f.Page-32, 2)}
		expect := func(no uint32, want api.Page, code api.Errno) {
			t.Helper()
			got, e := s.Page(no)
			gives(t, "Page", got, e, want, code)
		}
		expect(3, api.Page{}, api.ErrPage)
		d.Grow(5)
		expect(3, api.Page{}, api.ErrCrc)
		d.Write(3, laid(f.Page, p))
		expect(3, p, api.OK)
		d.Sync()
		for torn := 1; torn < 255; torn++ {
			e := d.Fork()
			s = over(t, f, e)
			e.Write(3, laid(f.Page, q))
			expect(3, q, api.OK)
			e.Crash(api.Fate(torn))
			expect(3, api.Page{}, api.ErrOff)
			e.Wake()
			expect(3, api.Page{}, api.ErrCrc)
		}
	}
}

func TestNoSheets(t *testing.T) {
	b := &blocks{at: map[uint32]block{2: {text: laid(1024, api.Page{Kind: 1, No: 2, Version: 1})}}}
	refusedByFrame, _ := page.Over(api.Frame{}, b)
	refusedByNil, _ := page.Over(api.Frame{Page: 1024, Width: 1}, nil)
	bare := over(t, api.Frame{Page: 1024, Width: 1}, b)
	bare.Blocks = nil
	for _, s := range []*page.Sheets{nil, {}, {Blocks: b}, bare, refusedByFrame, refusedByNil} {
		for _, no := range []uint32{0, 1, 2, 3, 1 << 31, math.MaxUint32} {
			p, e := s.Page(no)
			refuses(t, "Page of no Sheets", p, e, api.ErrNil)
		}
	}
	if len(b.asked) != 0 {
		t.Error("asked", b.asked)
	}
	// A disk that is not there is blocks all the same: these answer ErrNil.
	var none *disk.Disk
	p, e := over(t, api.Frame{Page: 1024, Width: 1}, none).Page(2)
	refuses(t, "Page over no disk", p, e, api.ErrNil)
}
