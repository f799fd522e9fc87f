package commit_test

import (
	"fmt"
	"math"
	"slices"
	"strings"
	"testing"

	"heartwood/api"
	"heartwood/commit"
	"heartwood/disk"
	"heartwood/free"
	"heartwood/node"
)

// refused holds an Open that is to be refused against what it may do: there may be one Sync, and the disk is not taken.
func refused(t *testing.T, what string, d *disk.Disk, c api.Config, due api.Errno, syncs int) {
	t.Helper()
	was, taken := d.Acts(), d.Taken()
	seen := d.Image()
	f, e := commit.Open(d, c)
	if f != nil || e != due {
		t.Errorf("%s: %v, and not %v", what, e, due)
	}
	if n := since(was, d.Acts()); n != (api.Acts{Syncs: syncs}) || d.Taken() != taken {
		t.Errorf("%s: %+v, taken %d for %d", what, n, d.Taken(), taken)
	}
	if len(d.Waits()) == 0 && !slices.Equal(d.Image(), seen) {
		t.Errorf("%s: the image is another one", what)
	}
}

func TestOpenNil(t *testing.T) {
	for _, c := range []api.Config{small(), {}, {Most: 9}} {
		for _, d := range []*disk.Disk{nil, {}} {
			if f, e := commit.Open(d, c); f != nil || e != api.ErrNil {
				t.Errorf("Open of no disk: %v", e)
			}
		}
	}
}

// Configs that may not be, and those that the disk is not made for; also while the power is off, and while the disk refuses, as these are looked at first.
func TestOpenConfigs(t *testing.T) {
	config := func(page, width, most int) api.Config {
		return api.Config{Frame: api.Frame{Page: page, Width: width}, Most: most}
	}
	for _, page := range []int{1024, 2048, 4096, 8192} {
		wrong := []api.Config{
			{}, config(page, 0, 9), config(page, 33, 9), config(page, -1, 9), config(page, math.MinInt, 9), config(page, math.MaxInt, 9),
			config(page, 2, 7), config(page, 2, 0), config(page, 2, -9), config(page, 2, 65537), config(page, 2, math.MaxInt), config(page, 2, math.MinInt),
			config(0, 2, 9), config(-page, 2, 9), config(page+1, 2, 9), config(page-1, 2, 9), config(page/16, 2, 9), config(page*16, 2, 9), config(3072, 2, 9), config(math.MaxInt, 2, 9),
			config(page, 2, 101), config(page, 2, 65536),
		}
		for _, other := range []int{1024, 2048, 4096, 8192} {
			if other != page {
				wrong = append(wrong, config(other, 2, 9))
			}
		}
		for _, c := range wrong {
			d := newDisk(t, page, 100)
			d.Grow(3)
			refused(t, fmt.Sprint(page, c), d, c, api.ErrArg, 0)
			armed(t, d, api.Arm{On: api.ActSync, Nth: 1})
			refused(t, fmt.Sprint(page, c), d, c, api.ErrArg, 0)
			if d.Armed() != 1 || len(d.Waits()) != 1 || d.Crash() != api.OK {
				t.Errorf("%v: the disk was synced", c)
			}
			refused(t, fmt.Sprint(page, c), d, c, api.ErrArg, 0)
		}
		for _, most := range []int{8, 9, 99, 100} {
			for _, width := range []int{1, 2, 31, 32} {
				f := opened(t, newDisk(t, page, 100), config(page, width, most))
				if f.Config() != config(page, width, most) || f.Meta().Root != emptyRoot(f.Config().Frame) {
					t.Error(f.Config(), f.Meta())
				}
			}
		}
	}
	opened(t, newDisk(t, 1024, 65536), config(1024, 2, 65536))
	refused(t, "a disk of 7 pages", newDisk(t, 1024, 7), config(1024, 2, 8), api.ErrArg, 0)
}

// The disk's Sync is next, and its error comes ahead of all that stands on the disk.
func TestOpenSyncs(t *testing.T) {
	c := small()
	spoilt := strings.Repeat("x", c.Page)
	for what, image := range map[string][]string{"no pages": nil, "spoilt slots": {spoilt, spoilt}, "blank slots": {blank(c.Frame), blank(c.Frame)}} {
		d := diskOf(t, c, image...)
		armed(t, d, api.Arm{On: api.ActSync, Nth: 1})
		refused(t, what+", a Sync that is refused", d, c, api.ErrIO, 0)
		armed(t, d, api.Arm{On: api.ActSync, Nth: 1, Power: true})
		was := d.Taken()
		if f, e := commit.Open(d, c); f != nil || e != api.ErrOff || d.On() || d.Taken() != was+1 {
			t.Errorf("%s: the power goes in the Sync: %v", what, e)
		}
		refused(t, what+", the power is off", d, c, api.ErrOff, 0)
	}
	d, f := first(t)
	d.Write(1, strings.Repeat("x", 1024)) // not synced yet
	g := opened(t, d, c)
	if len(d.Waits()) != 0 || g.Meta() != f.Meta() || f.State() != api.ErrState {
		t.Error("what waits is made durable ahead of being read", d.Waits(), g.Meta())
	}
}

// recordOf is a record that may be: of a version, with a root on the page 2, a list that begins on that page, and that count.
func recordOf(f api.Frame, version uint64, list, pages uint32) api.Meta {
	n := api.Node{Pairs: []api.Pair{{Key: "a", Val: fmt.Sprint(version)}}}
	sum, _ := node.Sum(f, n)
	return api.Meta{Version: version, Root: api.Root{Page: 2, Sum: sum, Count: 1, Version: version}, List: list, Pages: pages}
}

// paged answers an image: two slots, and so many pages of noughts behind them.
func paged(f api.Frame, zero, one string, more int) []string {
	return append([]string{zero, one}, slices.Repeat([]string{blank(f)}, more)...)
}

// Which slot counts, and which is next, in disks of all kinds of slots; and what is answered where none counts.
func TestOpenSlots(t *testing.T) {
	for _, f := range frames() {
		c := api.Config{Frame: f, Most: 20}
		other := api.Frame{Page: f.Page, Width: f.Width%32 + 1}
		nought, spoilt := blank(f), strings.Repeat("x", f.Page)
		foreign := encoded(t, other, recordOf(other, 9, 0, 3))
		three, four := recordOf(f, 3, 0, 3), recordOf(f, 4, 0, 4)
		large := recordOf(f, 8, 0, 21) // more pages than there are
		at := func(m api.Meta) string { return encoded(t, f, m) }
		none := api.Meta{Root: emptyRoot(f), Pages: 2}
		for _, x := range []struct {
			what  string
			image []string
			m     api.Meta
			next  uint32
			e     api.Errno
		}{
			{"no page", nil, none, 0, api.OK},
			{"one page, spoilt", []string{spoilt}, none, 0, api.OK},
			{"one page, a record", []string{at(three)}, none, 0, api.OK},
			{"two blank ones", paged(f, nought, nought, 0), none, 0, api.OK},
			{"two blank ones, and pages behind", paged(f, nought, nought, 9), none, 0, api.OK},
			{"a record in 0", paged(f, at(three), nought, 1), three, 1, api.OK},
			{"a record in 1", paged(f, nought, at(three), 1), three, 0, api.OK},
			{"records, the newer in 0", paged(f, at(four), at(three), 2), four, 1, api.OK},
			{"records, the newer in 1", paged(f, at(three), at(four), 2), four, 0, api.OK},
			{"records of one version", paged(f, at(three), at(recordOf(f, 3, 0, 4)), 2), three, 1, api.OK},
			{"the newer one counts too many", paged(f, at(three), at(four), 1), three, 1, api.OK},
			{"the newer one counts far too many", paged(f, at(large), at(three), 1), three, 0, api.OK},
			{"a record beside a spoilt one", paged(f, spoilt, at(three), 1), three, 0, api.OK},
			{"a record beside a foreign one", paged(f, at(three), foreign, 1), three, 1, api.OK},
			{"a blank one and a spoilt one", paged(f, nought, spoilt, 1), none, 0, api.ErrMeta},
			{"two spoilt ones", paged(f, spoilt, spoilt, 1), none, 0, api.ErrMeta},
			{"a record that counts too many, and a blank one", paged(f, at(four), nought, 1), none, 0, api.ErrMeta},
			{"a foreign one and a blank one", paged(f, nought, foreign, 5), none, 0, api.ErrForeign},
			{"a spoilt one and a foreign one", paged(f, foreign, spoilt, 5), none, 0, api.ErrForeign},
			{"a foreign one beside a record that counts too many", paged(f, foreign, at(four), 1), none, 0, api.ErrForeign},
			{"one that counts more than Most", paged(f, at(large), nought, 19), none, 0, api.ErrArg},
			{"one that counts more than Most, beside an older one", paged(f, at(three), at(large), 19), none, 0, api.ErrArg},
			{"one that counts more than Most, and has no right list", paged(f, at(recordOf(f, 8, 5, 21)), nought, 19), none, 0, api.ErrArg},
			{"one that counts just Most", paged(f, at(recordOf(f, 8, 0, 20)), nought, 19), recordOf(f, 8, 0, 20), 1, api.OK},
			{"one whose list is none", paged(f, at(recordOf(f, 8, 5, 20)), nought, 19), none, 0, api.ErrBad},
		} {
			d := diskOf(t, c, x.image...)
			if x.e != api.OK {
				refused(t, fmt.Sprint(f, x.what), d, c, x.e, 1)
				continue
			}
			file := opened(t, d, c)
			if file.Meta() != x.m || d.Acts() != (api.Acts{Syncs: 1}) || len(file.Lists())+len(file.Free())+len(file.Held()) > 0 {
				t.Errorf("%v: %s: %+v", f, x.what, file.Meta())
			}
			nothing, _ := file.Edit()
			if e := file.Commit(nothing); e != api.OK || len(d.Image()) < 2 || d.Image()[x.next] != at(file.Meta()) || file.Meta().Root != x.m.Root {
				t.Errorf("%v: %s: the next record is not in %d: %v", f, x.what, x.next, e)
			}
		}
	}
}

// Chains that are not to be believed: ErrBad, whatever layer 9 answers of them.
func TestOpenChains(t *testing.T) {
	for _, f := range sizes() {
		c := api.Config{Frame: f, Most: 20}
		body := func(next uint32, numbers ...uint32) string {
			s, e := free.Body(f, next, numbers...)
			if e != api.OK {
				t.Fatal(e)
			}
			return s
		}
		list := func(no uint32, body string) string {
			return formOf(t, f, api.Page{Kind: api.PageList, No: no, Version: 3, Body: body})
		}
		kind := func(k api.PageKind) string {
			return formOf(t, f, api.Page{Kind: k, No: 3, Version: 3, Body: body(0, 4)})
		}
		torn := list(3, body(0, 4))
		torn = torn[:f.Page/8] + blank(f)[f.Page/8:f.Page-1] + "x"
		for what, x := range map[string]struct {
			three, four string
			due         []api.Batch
		}{
			"a right one":                 {list(3, body(0, 4, 5)), blank(f), []api.Batch{{Page: 3, Numbers: []uint32{4, 5}}}},
			"one of two":                  {list(3, body(4, 5)), list(4, body(0)), []api.Batch{{Page: 3, Numbers: []uint32{5}}, {Page: 4}}},
			"a page of noughts":           {blank(f), blank(f), nil},
			"a torn page":                 {torn, blank(f), nil},
			"a page of another number":    {list(4, body(0, 5)), blank(f), nil},
			"a leaf":                      {kind(api.PageLeaf), blank(f), nil},
			"a branch":                    {kind(api.PageBranch), blank(f), nil},
			"no list's body":              {list(3, "abc"), blank(f), nil},
			"a number that isn't counted": {list(3, body(0, 6)), blank(f), nil},
			"a page that isn't counted":   {list(3, body(6)), blank(f), nil},
			"one that names itself":       {list(3, body(3)), blank(f), nil},
			"its own number":              {list(3, body(0, 3)), blank(f), nil},
			"a ring":                      {list(3, body(4)), list(4, body(3)), nil},
			"a number twice":              {list(3, body(4, 5)), list(4, body(0, 5)), nil},
			"a second page that is none":  {list(3, body(4, 5)), blank(f), nil},
		} {
			record := encoded(t, f, recordOf(f, 3, 3, 6))
			image := []string{record, blank(f), blank(f), x.three, x.four, blank(f), list(6, body(0))}
			d := diskOf(t, c, image...)
			if x.due == nil {
				refused(t, fmt.Sprint(f, what), d, c, api.ErrBad, 1)
				continue
			}
			file := opened(t, d, c)
			var lists, numbers []uint32
			for _, b := range x.due {
				lists, numbers = append(lists, b.Page), append(numbers, b.Numbers...)
			}
			if !slices.Equal(file.Lists(), lists) || !slices.Equal(file.Free(), numbers) || file.Meta().List != 3 {
				t.Errorf("%v: %s: Lists %v, Free %v", f, what, file.Lists(), file.Free())
			}
		}
	}
}

// A refused Open leaves who was there ahead of it where he was.
func TestOpenRefusedTakesNothing(t *testing.T) {
	d, f := first(t)
	wrong := small()
	wrong.Width = 3
	refused(t, "a foreign record", d, wrong, api.ErrForeign, 1)
	wrong.Page = 4096
	refused(t, "another page size", d, wrong, api.ErrArg, 0)
	armed(t, d, api.Arm{On: api.ActSync, Nth: 1})
	refused(t, "a Sync that is refused", d, small(), api.ErrIO, 0)
	if f.State() != api.OK || got(t, f, 1, "a") != "1" || commitLeaf(f, "a", "2") != api.OK {
		t.Error(f.State())
	}
}

// No node is read by Open: a tree that is not to be believed is met only where it is read.
func TestOpenReadsNoNode(t *testing.T) {
	d, f := first(t)
	m := f.Meta()
	spoilt := strings.Repeat("x", 1024)
	if d.Write(2, spoilt) != api.OK {
		t.Fatal("Write")
	}
	f = opened(t, d, small())
	if f.Meta() != m || f.State() != api.OK {
		t.Error(f.Meta())
	}
	tree, e := f.Tree(1)
	if e != api.OK {
		t.Fatal(e)
	}
	if _, _, e := tree.Get("a"); e != api.ErrCrc {
		t.Error("Get:", e)
	}
	x, e := f.Edit()
	if e != api.OK {
		t.Fatal(e)
	}
	if _, e := x.Put("a", "2"); e != api.ErrCrc {
		t.Error("Put:", e)
	}
	if _, e := f.Page(2); e != api.ErrCrc {
		t.Error("Page:", e)
	}
	if v, e := f.Hold(); v != 0 || e != api.ErrCrc || len(f.Held()) > 0 || f.Again(1) != api.ErrGone || f.State() != api.OK {
		t.Error("Hold:", v, e, f.Held())
	}
	if f.Commit(x) != api.OK || f.Meta().Root != m.Root {
		t.Error("a commit that changes nothing")
	}
}
