package meta_test

import (
	"math"
	"strings"
	"testing"

	"heartwood/api"
	"heartwood/meta"
)

// pick is what Pick answers.
type pick struct {
	m    api.Meta
	next uint32
	e    api.Errno
}

func (p pick) ok() bool { return p.e == api.OK }

// nothing is what it answers where no version was ever committed.
func nothing() pick { return pick{m: api.Meta{Pages: 2}} }

// picked answers what Pick does.
func picked(f api.Frame, zero, one string, pages int) pick {
	m, next, e := meta.Pick(f, zero, one, pages)
	return pick{m, next, e}
}

// picks complains, if Pick answers something else.
func picks(t *testing.T, what string, f api.Frame, zero, one string, pages int, want pick) {
	t.Helper()
	if got := picked(f, zero, one, pages); got != want {
		t.Fatalf("Pick of %s in %v with %d pages: %+v, and not %+v", what, f, pages, got, want)
	}
}

// slot is a slot's page, and what Decode tells of it.
type slot struct {
	page string
	m    api.Meta
	kind api.SlotKind
}

// slots are slots of all kinds, with records of several versions and counts.
func slots(f api.Frame) []slot {
	other := api.Frame{Page: f.Page, Width: 33 - f.Width}
	l := []slot{
		{page: noughts(f.Page)},
		{page: noughts(f.Page-1) + "x"},
		{page: laid(other, record(other)), kind: api.SlotForeign},
		{page: turned(noughts(f.Page), 5, 1), kind: api.SlotSpoilt},
		{page: turned(laid(f, record(f)), 9, 1), kind: api.SlotSpoilt},
		{page: strings.Repeat("\xff", f.Page), kind: api.SlotSpoilt},
	}
	for _, version := range []uint64{1, 2, 3, 1 << 40} {
		for _, pages := range []uint32{2, 5, 6} {
			// Two slots with one version are told apart by their digests.
			for seed := range 2 {
				m := api.Meta{Version: version, Root: api.Root{Sum: digest(f.Width, seed)}, Pages: pages}
				l = append(l, slot{laid(f, m), m, api.SlotRecord})
			}
		}
	}
	return l
}

// rule is the chapter's rule, of two slots of which is known what they are.
func rule(zero, one slot, pages int) pick {
	counts := func(s slot) bool { return s.kind == api.SlotRecord && int64(s.m.Pages) <= int64(pages) }
	has := func(kind api.SlotKind) bool { return zero.kind == kind || one.kind == kind }
	switch {
	case pages < 2:
		return nothing()
	case counts(zero) && counts(one) && one.m.Version > zero.m.Version:
		return pick{one.m, 0, api.OK}
	case counts(zero):
		return pick{zero.m, 1, api.OK}
	case counts(one):
		return pick{one.m, 0, api.OK}
	case has(api.SlotForeign):
		return pick{e: api.ErrForeign}
	case has(api.SlotRecord) || has(api.SlotSpoilt):
		return pick{e: api.ErrMeta}
	}
	return nothing()
}

// 6.4: each kind of slot beside each, with pages at, above and below the counts.
func TestPickOfAllPairs(t *testing.T) {
	t.Parallel()
	for _, f := range few() {
		all := slots(f)
		for _, s := range all {
			decodes(t, "a slot", f, s.page, s.m, s.kind)
		}
		for _, zero := range all {
			for _, one := range all {
				for _, pages := range []int{math.MinInt, -1, 0, 1, 2, 3, 4, 5, 6, 7, 65536, math.MaxInt} {
					picks(t, "two slots", f, zero.page, one.page, pages, rule(zero, one, pages))
				}
			}
		}
	}
}

// The rules' outcomes, told outright, so that the rule above does not stand alone.
func TestPickByName(t *testing.T) {
	for _, f := range frames() {
		of := func(version uint64, pages uint32) api.Meta {
			return api.Meta{Version: version, Root: api.Root{Page: 2, Sum: digest(f.Width, int(version)), Count: 4, Version: 1}, Pages: pages}
		}
		blank, spoilt := noughts(f.Page), turned(noughts(f.Page), 79, 1)
		size, width := api.Frame{Page: f.Page / 2, Width: f.Width}, api.Frame{Page: f.Page, Width: f.Width%32 + 1}
		if f.Page == 1024 {
			size.Page = 8192
		}
		a, b, c := of(8, 5), of(9, 5), of(9, 6)
		for what, x := range map[string]struct {
			zero, one string
			pages     int
			want      pick
		}{
			"one record in the slot 0":             {laid(f, a), blank, 5, pick{a, 1, api.OK}},
			"one record in the slot 1":             {blank, laid(f, a), 5, pick{a, 0, api.OK}},
			"a record beside a spoilt one":         {spoilt, laid(f, a), 9, pick{a, 0, api.OK}},
			"a spoilt one beside a record":         {laid(f, a), spoilt, 9, pick{a, 1, api.OK}},
			"a record beside one of another Page":  {resized(laid(size, of(11, 4)), f.Page), laid(f, a), 5, pick{a, 0, api.OK}},
			"a record beside one of another Width": {laid(f, a), laid(width, record(width)), 5, pick{a, 1, api.OK}},
			"the greater one in the slot 1":        {laid(f, a), laid(f, b), 5, pick{b, 0, api.OK}},
			"the greater one in the slot 0":        {laid(f, b), laid(f, a), 5, pick{b, 1, api.OK}},
			"two of one version":                   {laid(f, b), laid(f, c), 6, pick{b, 1, api.OK}},
			"two of one version, turned":           {laid(f, c), laid(f, b), 6, pick{c, 1, api.OK}},
			"the greater one counts too many":      {laid(f, a), laid(f, c), 5, pick{a, 1, api.OK}},
			"it does so in the slot 0":             {laid(f, c), laid(f, a), 5, pick{a, 0, api.OK}},
			"both count too many":                  {laid(f, a), laid(f, c), 4, pick{e: api.ErrMeta}},
			"one counts too many":                  {laid(f, a), blank, 4, pick{e: api.ErrMeta}},
			"one too many beside a spoilt one":     {spoilt, laid(f, a), 4, pick{e: api.ErrMeta}},
			"one too many beside another Page":     {resized(laid(size, of(1, 4)), f.Page), laid(f, a), 4, pick{e: api.ErrForeign}},
			"another Width and a blank one":        {blank, laid(width, record(width)), 99, pick{e: api.ErrForeign}},
			"another Width and a spoilt one":       {laid(width, record(width)), spoilt, 99, pick{e: api.ErrForeign}},
			"a foreign one that counts too many":   {laid(width, record(width)), blank, 2, pick{e: api.ErrForeign}},
			"two foreign ones":                     {laid(width, record(width)), resized(laid(size, of(2, 3)), f.Page), 9, pick{e: api.ErrForeign}},
			"two blank ones":                       {blank, blank, 2, nothing()},
			"two blank ones with other sectors":    {blank[1:] + "x", blank[1:] + "y", 77, nothing()},
			"a blank one and a spoilt one":         {blank, spoilt, 2, pick{e: api.ErrMeta}},
			"a spoilt one and a blank one":         {spoilt, blank, 2, pick{e: api.ErrMeta}},
			"two spoilt ones":                      {spoilt, spoilt, 2, pick{e: api.ErrMeta}},
		} {
			picks(t, what, f, x.zero, x.one, x.pages, x.want)
		}
	}
}

// 6.4's errors in their order: the frame, few pages, the lengths.
func TestPickInOrder(t *testing.T) {
	for _, f := range odd() {
		for _, pages := range []int{math.MinInt, -1, 0, 1, 2, 3, math.MaxInt} {
			for _, s := range []string{"", noughts(1024), laid(few()[0], record(few()[0]))} {
				picks(t, "an odd frame", f, s, s, pages, pick{e: api.ErrArg})
			}
		}
	}
	for _, f := range frames() {
		good := laid(f, record(f))
		lengths := []string{"", "x", good[:80], good[:f.Page-1], good + "\x00", good + good, noughts(f.Page - 1), noughts(f.Page + 1)}
		for _, s := range lengths {
			for _, pages := range []int{math.MinInt, -2, -1, 0, 1} {
				picks(t, "few pages", f, s, good, pages, nothing())
				picks(t, "few pages", f, good, s, pages, nothing())
				picks(t, "few pages", f, s, s, pages, nothing())
				picks(t, "few pages", f, good, good, pages, nothing())
			}
			for _, pages := range []int{2, 8, 9, 10, 65536, math.MaxInt} {
				picks(t, "another length", f, s, good, pages, pick{e: api.ErrArg})
				picks(t, "another length", f, good, s, pages, pick{e: api.ErrArg})
				picks(t, "another length", f, s, s, pages, pick{e: api.ErrArg})
			}
		}
	}
}

// A record's count against the file's pages, at the edges of both.
func TestPickAtTheCount(t *testing.T) {
	for _, f := range few() {
		for _, count := range []uint32{2, 3, 255, 256, 257, 65535, 65536} {
			m := api.Meta{Version: 4, Root: api.Root{Sum: digest(f.Width, 1)}, Pages: count}
			s, n := laid(f, m), int(count)
			picks(t, "as many pages", f, s, noughts(f.Page), n, pick{m, 1, api.OK})
			picks(t, "one more page", f, noughts(f.Page), s, n+1, pick{m, 0, api.OK})
			picks(t, "far more pages", f, noughts(f.Page), s, math.MaxInt, pick{m, 0, api.OK})
			if count > 2 {
				picks(t, "one page less", f, noughts(f.Page), s, n-1, pick{e: api.ErrMeta})
			} else {
				picks(t, "one page less", f, noughts(f.Page), s, n-1, nothing())
			}
		}
	}
}

// What is handed in is left as it was.
func TestArgumentsAreLeft(t *testing.T) {
	for _, f := range few() {
		for _, s := range slots(f) {
			page, zero, one, m, frame := strings.Clone(s.page), strings.Clone(s.page), noughts(f.Page), s.m, f
			meta.Check(frame, m)
			meta.Encode(frame, m)
			meta.Decode(frame, page)
			meta.Pick(frame, zero, one, 5)
			if page != s.page || zero != s.page || one != noughts(f.Page) || m != s.m || frame != f {
				t.Fatal("an argument is another one now")
			}
		}
	}
}
