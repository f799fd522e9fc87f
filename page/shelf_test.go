package page_test

import (
	"math"
	"math/rand"
	"slices"
	"testing"

	"heartwood/api"
	"heartwood/page"
)

// shelf answers a Shelf with these pages.
func shelf(t *testing.T, f api.Frame, l ...api.Page) *page.Shelf {
	t.Helper()
	s, e := page.NewShelf(f, l...)
	if e != api.OK || s == nil {
		t.Fatalf("NewShelf(%v, %d pages): %v", f, len(l), e)
	}
	return s
}

// model is a shelf of another make: all that was laid, in its order.
type model []api.Page

func (m model) page(no uint32) (api.Page, api.Errno) {
	for i := len(m) - 1; i >= 0; i-- {
		if m[i].No == no {
			return m[i], api.OK
		}
	}
	return api.Page{}, api.ErrNone
}

func (m model) numbers() []uint32 {
	var l []uint32
	for _, p := range m {
		if !slices.Contains(l, p.No) {
			l = append(l, p.No)
		}
	}
	slices.Sort(l)
	return l
}

// asks complains, if a shelf has another page of that number than a model.
func (m model) asks(t *testing.T, s *page.Shelf, no uint32) {
	t.Helper()
	p, e := s.Page(no)
	want, code := m.page(no)
	gives(t, "Page", p, e, want, code)
}

// tells complains, if a shelf has other numbers than a model.
func (m model) tells(t *testing.T, s *page.Shelf) {
	t.Helper()
	if l := s.Numbers(); !slices.Equal(l, m.numbers()) {
		t.Fatalf("Numbers: %v, and not %v", l, m.numbers())
	}
}

// holds complains, if a shelf has others than the pages of a model.
func (m model) holds(t *testing.T, s *page.Shelf) {
	t.Helper()
	m.tells(t, s)
	for _, no := range append(m.numbers(), 0, 1, 2, 3, 9, 1<<31-1, 1<<31, math.MaxUint32) {
		m.asks(t, s, no)
	}
}

func TestNewShelf(t *testing.T) {
	for _, f := range frames() {
		model{}.holds(t, shelf(t, f))
		model{}.holds(t, shelf(t, f, []api.Page{}...))
		l := []api.Page{{Kind: 3, No: 1<<31 - 1, Version: 1 << 40, Body: mixed(f.Page-32, 1)}, {Kind: 1, No: 2, Version: 1}, {Kind: 2, No: 300, Version: 5, Body: "ab"}, {Kind: 1, No: 9, Version: 5, Body: "ab"}}
		for n := range len(l) + 1 {
			model(l[:n]).holds(t, shelf(t, f, l[:n]...))
		}
	}
}

func TestNewShelfRefuses(t *testing.T) {
	f := api.Frame{Page: 1024, Width: 3}
	p := api.Page{Kind: 1, No: 2, Version: 1, Body: "ab"}
	q := api.Page{Kind: 2, No: 2, Version: 8, Body: "other"}
	r := api.Page{Kind: 1, No: 3, Version: 1}
	badKind := api.Page{No: 2, Version: 1}
	badNo := api.Page{Kind: 1, No: 1, Version: 1}
	long := api.Page{Kind: 1, No: 2, Version: 1, Body: mixed(993, 1)}
	for i, x := range []struct {
		want api.Errno
		l    []api.Page
	}{
		{api.ErrTwice, []api.Page{p, p}},
		{api.ErrTwice, []api.Page{p, q}},
		{api.ErrTwice, []api.Page{p, r, q}},
		{api.ErrTwice, []api.Page{r, p, p}},
		{api.ErrTwice, []api.Page{p, r, r, badKind}},
		{api.ErrTwice, []api.Page{p, q, long}},
		{api.ErrKind, []api.Page{badKind}},
		{api.ErrKind, []api.Page{p, badKind}},
		{api.ErrKind, []api.Page{p, badKind, p}},
		{api.ErrKind, []api.Page{r, badKind, badNo}},
		{api.ErrArg, []api.Page{r, badNo, badKind}},
		{api.ErrArg, []api.Page{badNo, badNo}},
		{api.ErrLong, []api.Page{p, long, p}},
		{api.ErrLong, []api.Page{long, long}},
	} {
		if s, e := page.NewShelf(f, x.l...); s != nil || e != x.want {
			t.Errorf("%d: %v, and not %v", i, e, x.want)
		}
		for _, f := range odd() {
			if s, e := page.NewShelf(f, x.l...); s != nil || e != api.ErrArg {
				t.Errorf("%d: NewShelf(%v): %v", i, f, e)
			}
		}
	}
	for _, f := range odd() {
		if s, e := page.NewShelf(f); s != nil || e != api.ErrArg {
			t.Errorf("NewShelf(%v): %v", f, e)
		}
	}
}

// Every order of six calls out of a few that matter.
func TestShelfInEveryOrder(t *testing.T) {
	t.Parallel()
	f := api.Frame{Page: 1024, Width: 3}
	lay := []struct {
		p    api.Page
		code api.Errno
	}{
		{api.Page{Kind: 1, No: 9, Version: 1, Body: "a"}, api.OK},
		{api.Page{Kind: 3, No: 9, Version: 2, Body: "b"}, api.OK},
		{api.Page{Kind: 2, No: 3, Version: 2}, api.OK},
		{api.Page{Kind: 1, No: 9, Version: 0, Body: "c"}, api.ErrArg},
	}
	const calls = 7
	orders := 1
	for range 6 {
		orders *= calls
	}
	for order := range orders {
		s, m := shelf(t, f), model{}
		for rest := order; rest > 0; rest /= calls {
			switch call := rest % calls; call {
			case 4:
				m.asks(t, s, 9)
			case 5:
				m.asks(t, s, 3)
			case 6:
				m.tells(t, s)
			default:
				x := lay[call]
				if e := s.Lay(x.p); e != x.code {
					t.Fatalf("Lay(%s): %v", told(x.p), e)
				}
				if x.code == api.OK {
					m = append(m, x.p)
				}
			}
		}
		m.holds(t, s)
	}
}

// Long scripts in all sizes; a Lay that is refused changes nothing.
func TestShelfByScripts(t *testing.T) {
	pick := rand.New(rand.NewSource(11))
	for range 200 {
		f := few()[pick.Intn(4)]
		room := f.Page - 32
		var m model
		for no := uint32(2); no < 8; no++ {
			m = append(m, api.Page{Kind: 1, No: no * 3, Version: 1, Body: mixed(int(no), 1)})
		}
		pick.Shuffle(len(m), func(i, j int) { m[i], m[j] = m[j], m[i] })
		s := shelf(t, f, m...)
		for range 60 {
			p := api.Page{Kind: api.PageKind(pick.Intn(5)), No: uint32(pick.Intn(24)), Version: uint64(pick.Intn(5)), Body: mixed(pick.Intn(room+3), pick.Intn(9))}
			want := page.Check(f, p)
			if e := s.Lay(p); e != want {
				t.Fatalf("Lay(%s): %v, and not %v", told(p), e, want)
			}
			if want == api.OK {
				m = append(m, p)
			}
			m.holds(t, s)
		}
	}
}

// What is handed in stays as it was, and may be written over; so may what is answered.
func TestShelfMemoryOfItsOwn(t *testing.T) {
	f := api.Frame{Page: 1024, Width: 3}
	l := []api.Page{{Kind: 1, No: 9, Version: 1, Body: "a"}, {Kind: 2, No: 4, Version: 1, Body: "b"}, {Kind: 3, No: 2, Version: 1, Body: "spare"}}
	kept := slices.Clone(l)
	s, m := shelf(t, f, l[:2]...), model(kept[:2])
	if !slices.Equal(l, kept) {
		t.Error("what was handed in is another:", l)
	}
	clear(l)
	m.holds(t, s)
	numbers := s.Numbers()
	again := s.Numbers()
	for n := range cap(numbers) {
		numbers[:cap(numbers)][n] = 77
	}
	if !slices.Equal(again, []uint32{4, 9}) {
		t.Error("two answers share memory:", again)
	}
	m.holds(t, s)
	p, _ := s.Page(9)
	p.Body, p.No = "z", 5
	m.holds(t, s)
	s.Lay(p)
	if !slices.Equal(again, []uint32{4, 9}) {
		t.Error("an answer has changed:", again)
	}
}

// Two shelves have nothing in common.
func TestShelvesOfTheirOwn(t *testing.T) {
	f := api.Frame{Page: 1024, Width: 3}
	m := model{{Kind: 1, No: 9, Version: 1, Body: "a"}}
	one, two := shelf(t, f, m...), shelf(t, f, m...)
	one.Lay(api.Page{Kind: 1, No: 9, Version: 2})
	one.Lay(api.Page{Kind: 1, No: 3, Version: 2})
	m.holds(t, two)
}

// 5.8: both are Pages, and are asked as such.
func TestSheetsAnswerAsAShelf(t *testing.T) {
	for _, f := range few() {
		s, b := shelf(t, f), &blocks{at: map[uint32]block{}}
		for _, p := range pages(f) {
			form, e := page.Write(f, p)
			if e != api.OK || s.Lay(p) != api.OK {
				t.Fatalf("Write(%s): %v", told(p), e)
			}
			b.at[p.No] = block{text: form}
			var both = [2]page.Pages{s, over(t, f, b)}
			for _, no := range s.Numbers() {
				want, code := both[0].Page(no)
				if code != api.OK {
					t.Fatalf("Page(%d): %v", no, code)
				}
				got, e := both[1].Page(no)
				gives(t, "Page of Sheets", got, e, want, code)
			}
		}
		if l := s.Numbers(); len(l) != 6 {
			t.Fatal("the shelf has other pages than were laid:", l)
		}
	}
}

func TestNoShelf(t *testing.T) {
	byFrame, _ := page.NewShelf(api.Frame{})
	byTwice, _ := page.NewShelf(api.Frame{Page: 1024, Width: 1}, api.Page{Kind: 1, No: 2, Version: 1}, api.Page{Kind: 1, No: 2, Version: 1})
	for i, s := range []*page.Shelf{nil, {}, byFrame, byTwice} {
		for range 2 {
			for _, no := range []uint32{0, 2, 1 << 31} {
				p, e := s.Page(no)
				refuses(t, "Page of no Shelf", p, e, api.ErrNil)
			}
			for _, p := range []api.Page{{}, {Kind: 1, No: 2, Version: 1}} {
				if e := s.Lay(p); e != api.ErrNil {
					t.Errorf("%d: Lay: %v", i, e)
				}
			}
			if l := s.Numbers(); len(l) != 0 {
				t.Errorf("%d: Numbers: %v", i, l)
			}
		}
	}
}
