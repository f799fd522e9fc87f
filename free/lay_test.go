package free_test

import (
	"math"
	"math/rand"
	"slices"
	"testing"

	"heartwood/api"
	"heartwood/disk"
	"heartwood/free"
	"heartwood/page"
)

// lays complains, if Lay answers something else.
func lays(t *testing.T, what string, f api.Frame, version uint64, l []api.Batch, p api.Plan, want []api.Page, e api.Errno) {
	t.Helper()
	got, is := free.Lay(f, version, l, p)
	if !slices.Equal(got, want) || is != e {
		t.Fatalf("Lay of %s in %v: %v %v, and not %v %v", what, f, got, is, want, e)
	}
}

func list(no uint32, version uint64, body string) api.Page {
	return api.Page{Kind: api.PageList, No: no, Version: version, Body: body}
}

// P9.7: ordinary plans.
func TestLay(t *testing.T) {
	a, b, c := batch(6, 2, 4), batch(3), batch(7, 5)
	for _, f := range frames() {
		for _, version := range []uint64{1, 2, 77, newest} {
			for what, x := range map[string]struct {
				chain []api.Batch
				p     api.Plan
				want  []api.Page
			}{
				"nothing":             {nil, api.Plan{Pages: 2}, nil},
				"no Lists":            {chain(a), api.Plan{Pages: 7}, nil},
				"all opened":          {chain(a), api.Plan{Pages: 7, Opened: 1}, nil},
				"one of none":         {nil, api.Plan{Pages: 7, Lists: chain(a)}, []api.Page{list(6, version, form(0, 2, 4))}},
				"two of none":         {nil, api.Plan{Pages: 7, Lists: chain(a, b)}, []api.Page{list(6, version, form(3, 2, 4)), list(3, version, form(0))}},
				"one ahead of others": {chain(b, c), api.Plan{Pages: 8, Lists: chain(a)}, []api.Page{list(6, version, form(3, 2, 4))}},
				"one for another":     {chain(b, c), api.Plan{Pages: 8, Lists: chain(a), Opened: 1}, []api.Page{list(6, version, form(7, 2, 4))}},
				"one for all":         {chain(b, c), api.Plan{Pages: 8, Lists: chain(a), Opened: 2}, []api.Page{list(6, version, form(0, 2, 4))}},
				"three":               {nil, api.Plan{Pages: most, Lists: chain(c, a, b), Trees: []uint32{1, 1, 99}}, []api.Page{list(7, version, form(6, 5)), list(6, version, form(3, 2, 4)), list(3, version, form(0))}},
				// Of a batch that is opened nothing is asked.
				"one for a wrong one": {chain(batch(0, 9, 5, 1), c), api.Plan{Pages: 8, Lists: chain(a), Opened: 1}, []api.Page{list(6, version, form(7, 2, 4))}},
				"one for the same":    {chain(a, c), api.Plan{Pages: 8, Lists: chain(a), Opened: 1}, []api.Page{list(6, version, form(7, 2, 4))}},
			} {
				lays(t, what, f, version, x.chain, x.p, x.want, api.OK)
			}
		}
		n := entries(f)
		numbers := run(3, n)
		lays(t, "N Numbers", f, 1, nil, api.Plan{Pages: uint32(n) + 3, Lists: chain(batch(2, numbers...))}, []api.Page{list(2, 1, form(0, numbers...))}, api.OK)
		lays(t, "the last page", f, 1, nil, api.Plan{Pages: most, Lists: chain(batch(most-1, most-2))}, []api.Page{list(most-1, 1, form(0, most-2))}, api.OK)
	}
}

// P9.7: what may not be.
func TestLayOfWrongArguments(t *testing.T) {
	a, b := batch(6, 2, 4), batch(3, 5)
	good := api.Plan{Pages: 7, Lists: chain(a)}
	for _, f := range wrong() {
		lays(t, "a wrong frame", f, 1, chain(b), good, nil, api.ErrArg)
		lays(t, "a wrong frame", f, 1, nil, api.Plan{Pages: 2}, nil, api.ErrArg)
	}
	for _, f := range frames() {
		for _, version := range []uint64{0, newest + 1, math.MaxUint64} {
			lays(t, "a wrong version", f, version, chain(b), good, nil, api.ErrArg)
			lays(t, "a wrong version", f, version, nil, api.Plan{Pages: 2}, nil, api.ErrArg)
		}
		for what, x := range map[string]struct {
			chain []api.Batch
			p     api.Plan
		}{
			"Opened -1":                  {chain(b), api.Plan{Pages: 7, Lists: chain(a), Opened: -1}},
			"the least Opened":           {chain(b), api.Plan{Pages: 7, Lists: chain(a), Opened: math.MinInt}},
			"one too many Opened":        {chain(b), api.Plan{Pages: 7, Lists: chain(a), Opened: 2}},
			"the greatest Opened":        {chain(b), api.Plan{Pages: 7, Lists: chain(a), Opened: math.MaxInt}},
			"one Opened of none":         {nil, api.Plan{Pages: 7, Lists: chain(a), Opened: 1}},
			"a Page at the count":        {nil, api.Plan{Pages: 6, Lists: chain(a)}},
			"a Page at it, not opened":   {chain(a), api.Plan{Pages: 6}},
			"a Number at the count":      {nil, api.Plan{Pages: 9, Lists: chain(batch(2, 9))}},
			"a Page of the chain's":      {chain(b), api.Plan{Pages: 9, Lists: chain(batch(3, 7))}},
			"a Page of its Numbers":      {chain(b), api.Plan{Pages: 9, Lists: chain(batch(5, 7))}},
			"a Number of the chain's":    {chain(b), api.Plan{Pages: 9, Lists: chain(batch(6, 5))}},
			"a Number that is a Page":    {chain(b), api.Plan{Pages: 9, Lists: chain(batch(6, 3))}},
			"a Page twice":               {nil, api.Plan{Pages: 9, Lists: chain(a, a)}},
			"falling Numbers":            {nil, api.Plan{Pages: 9, Lists: chain(batch(6, 4, 2))}},
			"a wrong one, not opened":    {chain(b, batch(7, 9, 8)), api.Plan{Pages: 10, Lists: chain(a), Opened: 1}},
			"a Page 1":                   {nil, api.Plan{Pages: 9, Lists: chain(batch(1))}},
			"a Number 0":                 {nil, api.Plan{Pages: 9, Lists: chain(batch(2, 0))}},
			"more Numbers than N":        {nil, api.Plan{Pages: most, Lists: chain(batch(2, run(3, entries(f)+1)...))}},
			"no count":                   {nil, api.Plan{Lists: chain(a)}},
			"no count of nothing":        {nil, api.Plan{}},
			"a count that may not be":    {nil, api.Plan{Pages: most + 1, Lists: chain(a)}},
			"a Page that may not be":     {nil, api.Plan{Pages: most + 1, Lists: chain(batch(most, 5))}},
			"the greatest count":         {chain(b), api.Plan{Pages: math.MaxUint32, Lists: chain(a)}},
			"a Number that may not be":   {nil, api.Plan{Pages: math.MaxUint32, Lists: chain(batch(5, most))}},
			"a next that may not be":     {chain(batch(most)), api.Plan{Pages: math.MaxUint32, Lists: chain(a)}},
			"two things that may not be": {chain(b), api.Plan{Lists: chain(a), Opened: 5}},
		} {
			lays(t, what, f, 1, x.chain, x.p, nil, api.ErrArg)
		}
	}
}

// P9.7 by chance, against the words of the chapter: plans of the need, and of others.
func TestLayByChance(t *testing.T) {
	count := map[api.Errno]int{}
	chances(77, 6000, func(by *rand.Rand, f api.Frame, n api.Need) {
		n.Most = most
		p, e := free.Plan(f, n)
		if e != api.OK {
			t.Fatal(e)
		}
		l := n.Chain
		switch by.Intn(8) {
		case 0:
			p.Opened += by.Intn(5) - 2
		case 1:
			p.Pages -= uint32(by.Intn(3))
		case 2:
			p.Lists = broken(by, p.Lists)
		case 3:
			l = broken(by, l)
		}
		version := uint64(1 + by.Intn(9))
		want, e := dueLay(f, version, l, p)
		count[e]++
		g := &guard{}
		in, with := g.chain(l), g.plan(p)
		lays(t, "a plan by chance", f, version, in, with, want, e)
		g.kept(t, "what Lay was handed")
		laid, _ := free.Lay(f, version, in, with)
		g.spoil()
		if !slices.Equal(laid, want) {
			t.Fatal("what Lay answers hangs on what it was handed")
		}
		for i := range laid {
			laid[i] = api.Page{}
		}
		lays(t, "the same again", f, version, l, p, want, e)
	})
	if count[api.OK] < 1000 || count[api.ErrArg] < 300 {
		t.Error("too few of a kind", count)
	}
}

// source is pages that know which of them were asked for; errs is what it refuses.
type source struct {
	pages map[uint32]api.Page
	errs  map[uint32]api.Errno
	asked []uint32
}

func (s *source) Page(no uint32) (api.Page, api.Errno) {
	s.asked = append(s.asked, no)
	if e := s.errs[no]; e != api.OK {
		return api.Page{}, e
	}
	p, has := s.pages[no]
	if !has {
		return api.Page{}, api.ErrNone
	}
	return p, api.OK
}

// on answers a source of list pages; each of them names the one behind it.
func on(l ...api.Batch) *source {
	s := &source{pages: map[uint32]api.Page{}, errs: map[uint32]api.Errno{}}
	for i, b := range l {
		next := uint32(0)
		if i+1 < len(l) {
			next = l[i+1].Page
		}
		s.lay(b.Page, next, b.Numbers...)
	}
	return s
}

func (s *source) lay(no, next uint32, numbers ...uint32) {
	s.pages[no] = list(no, 3, form(next, numbers...))
}

// readsChain complains, if Read answers something else, or asks for other pages.
func readsChain(t *testing.T, what string, f api.Frame, s *source, first, pages uint32, want []api.Batch, e api.Errno, asked ...uint32) {
	t.Helper()
	s.asked = nil
	got, is := free.Read(f, s, first, pages)
	if !sameChain(got, want) || is != e {
		t.Fatalf("Read of %s in %v from %d for %d: %v %v, and not %v %v", what, f, first, pages, got, is, want, e)
	}
	if !slices.Equal(s.asked, asked) {
		t.Fatalf("Read of %s in %v asks for %v, and not for %v", what, f, s.asked, asked)
	}
}

// P9.8: chains that are right.
func TestRead(t *testing.T) {
	for _, f := range frames() {
		readsChain(t, "no batch", f, on(), 0, 2, nil, api.OK)
		readsChain(t, "no batch of pages", f, on(batch(5)), 0, 9, nil, api.OK)
		for _, l := range [][]api.Batch{
			chain(batch(2)),
			chain(batch(5, 2, 6)),
			chain(batch(4), batch(2), batch(3)),
			chain(batch(9, 7, 8), batch(2), batch(5, 3)),
			chain(batch(2, run(3, entries(f))...)),
			chain(batch(most-1, most-2), batch(2, most-3)),
			full(f, 5000),
		} {
			least := slices.Max(named(l)) + 1
			readsChain(t, "a chain", f, on(l...), l[0].Page, least, l, api.OK, pagesOf(l)...)
			readsChain(t, "a chain", f, on(l...), l[0].Page, most, l, api.OK, pagesOf(l)...)
			last := l[len(l)-1]
			readsChain(t, "its last", f, on(l...), last.Page, most, chain(last), api.OK, last.Page)
		}
	}
}

// P9.8: what is wrong with the call is told ahead of all pages, of which none is asked for.
func TestReadOfWrongArguments(t *testing.T) {
	for _, first := range []uint32{0, 1, 5, math.MaxUint32} {
		for _, f := range append(wrong(), frames()...) {
			for _, pages := range []uint32{0, 1, 2, most, most + 1} {
				if l, e := free.Read(f, nil, first, pages); len(l) != 0 || e != api.ErrNil {
					t.Fatal("Read of no pages at all", f, first, pages, l, e)
				}
			}
		}
		for _, f := range wrong() {
			readsChain(t, "a wrong frame", f, on(batch(5)), first, 9, nil, api.ErrArg)
		}
		for _, f := range frames() {
			for _, pages := range []uint32{0, 1, most + 1, 1 << 31, math.MaxUint32} {
				readsChain(t, "a wrong count", f, on(batch(5)), first, pages, nil, api.ErrArg)
			}
		}
	}
	// Pages that are not there, but are handed in, refuse.
	var none *page.Shelf
	var blank page.Sheets
	for _, p := range []page.Pages{none, &page.Shelf{}, &blank} {
		if l, e := free.Read(small(), p, 5, 9); len(l) != 0 || e != api.ErrNil {
			t.Error("Read of nil pages", l, e)
		}
		if l, e := free.Read(small(), p, 0, 9); len(l) != 0 || e != api.OK {
			t.Error("Read of no batch of nil pages", l, e)
		}
	}
}

// P9.8: errors of the pages are handed on as they are, at the first that is refused.
func TestReadOfRefusedPages(t *testing.T) {
	l := chain(batch(5, 2), batch(7, 3), batch(4))
	for _, f := range sizes() {
		for _, e := range []api.Errno{api.ErrNil, api.ErrArg, api.ErrIO, api.ErrOff, api.ErrState, api.ErrCrc, api.ErrNumber, api.ErrList, 999, -1} {
			for i := range l {
				s := on(l...)
				s.errs[l[i].Page] = e
				if i+1 < len(l) {
					s.errs[l[i+1].Page] = api.ErrBad
				}
				readsChain(t, "a refused page", f, s, 5, 9, nil, e, pagesOf(l[:i+1])...)
			}
		}
		readsChain(t, "a page that is not there", f, on(l...), 6, 9, nil, api.ErrNone, 6)
		readsChain(t, "a page that is no number's", f, on(l...), 1, 9, nil, api.ErrNone, 1)
		readsChain(t, "a page beyond the count", f, on(l...), 9, 9, nil, api.ErrNone, 9)
		readsChain(t, "a page far beyond it", f, on(l...), math.MaxUint32, 9, nil, api.ErrNone, math.MaxUint32)
	}
}

// P9.8: pages that may not stand there, and no page behind them is asked for.
func TestReadOfWrongPages(t *testing.T) {
	l := chain(batch(5, 2), batch(7, 3), batch(4))
	for what, lay := range map[string]func(s *source){
		"a leaf":                  func(s *source) { s.pages[7] = api.Page{Kind: api.PageLeaf, No: 7, Version: 3, Body: form(4, 3)} },
		"a branch":                func(s *source) { s.pages[7] = api.Page{Kind: api.PageBranch, No: 7, Version: 3, Body: form(4, 3)} },
		"no kind":                 func(s *source) { s.pages[7] = api.Page{No: 7, Version: 3, Body: form(4, 3)} },
		"a kind of its own":       func(s *source) { s.pages[7] = api.Page{Kind: 4, No: 7, Version: 3, Body: form(4, 3)} },
		"no body":                 func(s *source) { s.pages[7] = list(7, 3, "") },
		"a byte too few":          func(s *source) { s.pages[7] = list(7, 3, form(4, 3)[:11]) },
		"a byte too many":         func(s *source) { s.pages[7] = list(7, 3, form(4, 3)+"\x00") },
		"a next 1":                func(s *source) { s.lay(7, 1, 3) },
		"a next that may not be":  func(s *source) { s.lay(7, most, 3) },
		"falling Numbers":         func(s *source) { s.lay(7, 4, 6, 3) },
		"a Number 1":              func(s *source) { s.lay(7, 4, 1) },
		"a Number at the count":   func(s *source) { s.lay(7, 4, 3, 9) },
		"a Number of the first":   func(s *source) { s.lay(7, 4, 2) },
		"the first page's number": func(s *source) { s.lay(7, 4, 5) },
		"its own number":          func(s *source) { s.lay(7, 4, 6, 7) },
		"too many Numbers":        func(s *source) { s.lay(7, 4, run(2, 3000)...) },
	} {
		for _, f := range frames() {
			s := on(l...)
			lay(s)
			s.errs[4] = api.ErrIO
			readsChain(t, what, f, s, 5, 9, nil, api.ErrBad, 5, 7)
			readsChain(t, what+" as the first", f, s, 7, 6, nil, api.ErrBad, 7)
		}
	}
	for _, f := range frames() {
		readsChain(t, "a first page at the count", f, on(l...), 5, 5, nil, api.ErrBad, 5)
		readsChain(t, "a second one at it", f, on(l...), 5, 7, nil, api.ErrBad, 5, 7)
		readsChain(t, "a page 1", f, on(batch(1)), 1, 9, nil, api.ErrBad, 1)
		readsChain(t, "a page that is a Number ahead", f, on(batch(5, 2, 7), batch(7, 3)), 5, 9, nil, api.ErrBad, 5, 7)
		many := full(f, most)
		many[len(many)-1].Numbers = append(many[len(many)-1].Numbers, 2)
		readsChain(t, "a Number at the last that is the first page", f, on(many...), 2, most, nil, api.ErrBad, pagesOf(many)...)
	}
}

// P9.8: chains that come back to themselves; the page that is read a second time is the wrong one.
func TestReadOfRings(t *testing.T) {
	for _, f := range frames() {
		s := on()
		s.lay(5, 5)
		readsChain(t, "a page that names itself", f, s, 5, 9, nil, api.ErrBad, 5, 5)
		s = on()
		s.lay(5, 7, 2)
		s.lay(7, 4)
		s.lay(4, 7, 3)
		readsChain(t, "a page that names one ahead", f, s, 5, 9, nil, api.ErrBad, 5, 7, 4, 7)
		s.lay(4, 5, 3)
		readsChain(t, "a page that names the first", f, s, 5, 9, nil, api.ErrBad, 5, 7, 4, 5)
	}
	// The longest ring of pages that name no number.
	s := on()
	for no := uint32(2); no < most; no++ {
		s.lay(no, no+1)
	}
	s.lay(most-1, 0)
	if l, e := free.Read(small(), s, 2, most); len(l) != most-2 || e != api.OK {
		t.Error("the longest chain", len(l), e)
	}
	s.lay(most-1, 2)
	if l, e := free.Read(small(), s, 2, most); len(l) != 0 || e != api.ErrBad {
		t.Error("the longest ring", len(l), e)
	}
}

// dueRead reads pages by the words of the chapter, and tells which it asked for.
func dueRead(f api.Frame, s *source, first, pages uint32) (l []api.Batch, e api.Errno, asked []uint32) {
	for no := first; no != 0; {
		asked = append(asked, no)
		p, e := (&source{pages: s.pages, errs: s.errs}).Page(no)
		if e != api.OK {
			return nil, e, asked
		}
		next, numbers, e := free.FromBody(f, p.Body)
		l = append(l, batch(no, numbers...))
		if e != api.OK || p.Kind != api.PageList || !dueRight(f, l, pages) {
			return nil, api.ErrBad, asked
		}
		no = next
	}
	return l, api.OK, asked
}

// P9.8 by chance: chains of a file, some of them with pages that are turned.
func TestReadByChance(t *testing.T) {
	by := rand.New(rand.NewSource(981))
	count := map[api.Errno]int{}
	for range 10000 {
		f := sizes()[by.Intn(4)]
		x := anyFile(by, f, 20, 5)
		s := on(x.chain...)
		first := append(pagesOf(x.chain), 0)[0]
		for range by.Intn(3) {
			no := uint32(by.Intn(20))
			switch by.Intn(5) {
			case 0:
				s.lay(no, uint32(by.Intn(20)), sorted(some(by, run(2, 6)))...)
			case 1:
				s.errs[no] = api.Errno(by.Intn(300))
			case 2:
				s.pages[no] = api.Page{Kind: api.PageKind(by.Intn(5)), No: no, Version: 1, Body: s.pages[no].Body}
			case 3:
				first = no
			case 4:
				x.pages = 2 + no
			}
		}
		want, e, asked := dueRead(f, s, first, x.pages)
		readsChain(t, "pages by chance", f, s, first, x.pages, want, e, asked...)
		count[min(e, 9)]++
	}
	if count[api.OK] < 1000 || count[api.ErrBad] < 500 || count[9] < 500 {
		t.Error("too few of a kind", count)
	}
}

func TestReadAnswersItsOwn(t *testing.T) {
	l := chain(batch(5, 2, 3), batch(7, 4, 6), batch(8))
	s := on(l...)
	one, _ := free.Read(small(), s, 5, 9)
	apart(t, "Read's answer", numbersOf(one)...)
	scribbleChain(one)
	readsChain(t, "the same again", small(), s, 5, 9, l, api.OK, 5, 7, 8)
}

// written answers a disk on which pages stand.
func written(t *testing.T, f api.Frame, size int, pages ...api.Page) *disk.Disk {
	t.Helper()
	d, e := disk.New(f.Page, size)
	if e == api.OK {
		e = d.Grow(size)
	}
	for _, p := range pages {
		if e == api.OK {
			e = put(f, d, p)
		}
	}
	if e != api.OK {
		t.Fatal("a disk", e)
	}
	return d
}

// put writes a page to a disk.
func put(f api.Frame, d *disk.Disk, p api.Page) api.Errno {
	s, e := page.Write(f, p)
	if e != api.OK {
		return e
	}
	return d.Write(p.No, s)
}

// P9.8, P9.13: what Lay answers, written to a disk and read from it; pages that do not stand there whole.
func TestReadFromADisk(t *testing.T) {
	for _, f := range frames() {
		l := chain(batch(6, 2, 4), batch(3, 5))
		laid, e := free.Lay(f, 9, nil, api.Plan{Lists: l, Pages: 8})
		if e != api.OK {
			t.Fatal(e)
		}
		d := written(t, f, 8, laid...)
		sheets, _ := page.Over(f, d)
		if got, e := free.Read(f, sheets, 6, 8); !sameChain(got, l) || e != api.OK {
			t.Fatal("from a disk", f, got, e)
		}
		whole, _ := d.Read(3)
		other, _ := d.Read(6)
		for what, x := range map[string]struct {
			s    string
			want api.Errno
		}{
			"a byte turned":      {whole[:40] + "x" + whole[41:], api.ErrCrc},
			"noughts":            {string(make([]byte, f.Page)), api.ErrCrc},
			"the page of others": {other, api.ErrNumber},
		} {
			if e := d.Write(3, x.s); e != api.OK {
				t.Fatal(e)
			}
			if got, e := free.Read(f, sheets, 6, 8); len(got) != 0 || e != x.want {
				t.Fatal(what, f, got, e)
			}
		}
		if got, e := free.Read(f, sheets, 1, 8); len(got) != 0 || e != api.ErrArg {
			t.Fatal("a slot", f, got, e)
		}
		if got, e := free.Read(f, sheets, 8, 9); len(got) != 0 || e != api.ErrPage {
			t.Fatal("a page beyond the disk's", f, got, e)
		}
		d.Crash()
		if got, e := free.Read(f, sheets, 6, 8); len(got) != 0 || e != api.ErrOff {
			t.Fatal("a disk that is off", f, got, e)
		}
	}
}
