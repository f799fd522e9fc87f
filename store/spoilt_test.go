package store_test

import (
	"maps"
	"slices"
	"strings"
	"testing"

	"heartwood/api"
	"heartwood/disk"
	"heartwood/meta"
	"heartwood/node"
	"heartwood/page"
)

// spoiling are ways to spoil a page behind a store's back, and the error with which it is refused then.
func spoiling(t *testing.T, f api.Frame, no uint32, version uint64) map[string]struct {
	form string
	e    api.Errno
} {
	t.Helper()
	form := func(p api.Page) string {
		s, e := page.Write(f, p)
		well(t, e)
		return s
	}
	body := func(n api.Node) string {
		s, e := node.Pack(f, n)
		well(t, e)
		return s
	}
	other := body(api.Node{Pairs: []api.Pair{{Key: "other", Val: "leaf"}}})
	return map[string]struct {
		form string
		e    api.Errno
	}{
		"noughts":          {strings.Repeat("\x00", f.Page), api.ErrCrc},
		"turned bytes":     {"x" + strings.Repeat("y", f.Page-1), api.ErrCrc},
		"another number":   {form(api.Page{Kind: api.PageLeaf, No: no + 1, Version: version, Body: other}), api.ErrNumber},
		"a list":           {form(api.Page{Kind: api.PageList, No: no, Version: version, Body: other}), api.ErrBad},
		"a kind of others": {form(api.Page{Kind: api.PageBranch, No: no, Version: version, Body: other}), api.ErrBad},
		"no node":          {form(api.Page{Kind: api.PageLeaf, No: no, Version: version, Body: "x"}), api.ErrBad},
		"another leaf":     {form(api.Page{Kind: api.PageLeaf, No: no, Version: version, Body: other}), api.ErrBad},
		"no body":          {form(api.Page{Kind: api.PageLeaf, No: no, Version: version}), api.ErrBad},
	}
}

// sixPairs is a store of six long pairs, in two leaves of three each, and the pages of its root and of the leaves.
func sixPairs(t *testing.T, f api.Frame) (*trial, []uint32) {
	t.Helper()
	y := newTrial(t, wide(f))
	for i := range 6 {
		y.put(longKey(f, i), longVal(f, "a"))
	}
	y.commit()
	tree, e := y.s.Committed()
	well(t, e)
	numbers, e := tree.Pages()
	well(t, e)
	if len(numbers) != 3 {
		t.Fatal(numbers)
	}
	return y, numbers
}

// spoil writes over a page, and answers what sets it right again.
func spoil(t *testing.T, d *disk.Disk, no uint32, form string) func() {
	t.Helper()
	was, e := d.Read(no)
	well(t, e, d.Write(no, form))
	return func() {
		t.Helper()
		well(t, d.Write(no, was), d.Sync())
	}
}

// A leaf that cannot be read ends the calls that go to it with the error of the layer that refused it, and nothing is changed then; all others go well, also a commit.
func TestSpoiltLeaf(t *testing.T) {
	f := api.Frame{Page: 1024, Width: 32}
	for at := range 2 {
		_, numbers := sixPairs(t, f)
		for what := range spoiling(t, f, numbers[1+at], 1) {
			y, numbers := sixPairs(t, f)
			w := spoiling(t, f, numbers[1+at], 1)[what]
			there, gone := longKey(f, 3-3*at), longKey(f, 3*at)
			y.put(there, "worked on")
			restore := spoil(t, y.d, numbers[1+at], w.form)
			failing := []api.Op{
				{Kind: api.OpGet, Key: gone}, {Kind: api.OpGet, Key: gone[:6]}, {Kind: api.OpPut, Key: gone, Val: "x"}, {Kind: api.OpPut, Key: gone[:6], Val: "x"},
				{Kind: api.OpDelete, Key: gone}, {Kind: api.OpScan}, {Kind: api.OpScan, Key: gone}, {Kind: api.OpScan, Key: gone, Val: gone + "x", Limit: 1},
			}
			for _, o := range failing {
				for _, r := range []api.Reply{byMethod(y.s, o), y.s.Do(o), y.s.Does(o)[0]} {
					if due := (api.Reply{Err: w.e}); !same(r, due) {
						t.Errorf("%s: %+v: %+v, and not %v", what, o, r, w.e)
					}
				}
			}
			if val, is, e := y.s.Get(there); val != "worked on" || !is || e != api.OK {
				t.Errorf("%s: the other leaf: %q %v %v", what, val, is, e)
			}
			if l, e := y.s.Scan(there, there+"\x00", 0); len(l) != 1 || e != api.OK {
				t.Errorf("%s: a range of the other leaf: %v %v", what, l, e)
			}
			restore()
			y.whole()
			restore = spoil(t, y.d, numbers[1+at], w.form)
			well(t, y.d.Sync())
			y.model.does(api.Op{Kind: api.OpCommit})
			well(t, y.twin.does(t, api.Op{Kind: api.OpCommit}), y.s.Commit())
			restore()
			y.whole()
		}
	}
}

// A limit that is reached ahead of the leaf that cannot be read is reached.
func TestScanUpToSpoiltLeaf(t *testing.T) {
	f := api.Frame{Page: 1024, Width: 32}
	y, numbers := sixPairs(t, f)
	restore := spoil(t, y.d, numbers[2], strings.Repeat("x", f.Page))
	for limit := range 8 {
		l, e := y.s.Scan("", "", limit)
		if limit >= 1 && limit <= 3 && (len(l) != limit || e != api.OK) {
			t.Errorf("a limit of %d: %d pairs, %v", limit, len(l), e)
		}
		if (limit == 0 || limit > 3) && (len(l) > 0 || e != api.ErrCrc) {
			t.Errorf("a limit of %d: %d pairs, %v", limit, len(l), e)
		}
	}
	if l, e := y.s.Scan("", longKey(f, 3), 0); len(l) > 0 && e != api.OK {
		t.Error(l, e)
	}
	restore()
	y.whole()
}

// A neighbour that cannot be read ends the delete that makes a leaf thin: the pair is there yet.
func TestSpoiltNeighbour(t *testing.T) {
	f := api.Frame{Page: 1024, Width: 32}
	for at := range 2 {
		y, numbers := sixPairs(t, f)
		y.remove(longKey(f, 3*at))
		restore := spoil(t, y.d, numbers[2-at], strings.Repeat("x", f.Page))
		for range 3 {
			if has, e := y.s.Delete(longKey(f, 3*at+1)); has || e != api.ErrCrc {
				t.Error(has, e)
			}
			if r := y.s.Do(api.Op{Kind: api.OpDelete, Key: longKey(f, 3*at+2)}); !same(r, api.Reply{Err: api.ErrCrc}) {
				t.Error(r)
			}
		}
		restore()
		y.whole()
		y.remove(longKey(f, 3*at+1))
		y.whole()
		y.commit()
		y.whole()
	}
}

// A root that cannot be read: all that reads the tree is refused; what reads no node goes well, also a commit of nothing.
func TestSpoiltRoot(t *testing.T) {
	f := api.Frame{Page: 1024, Width: 32}
	y, numbers := sixPairs(t, f)
	restore := spoil(t, y.d, numbers[0], strings.Repeat("x", f.Page))
	well(t, y.d.Sync())
	_, _, get := y.s.Get(longKey(f, 1))
	_, del := y.s.Delete(longKey(f, 1))
	_, scan := y.s.Scan("", "", 1)
	for i, e := range []api.Errno{get, del, scan, y.s.Put("a", "1")} {
		if e != api.ErrCrc {
			t.Error(i, e)
		}
	}
	if l, e := y.s.Scan("b", "a", 0); len(l) > 0 || e != api.OK {
		t.Error("an empty range reads nothing:", l, e)
	}
	for _, o := range []api.Op{{Kind: api.OpPut}, {Kind: api.OpGet}, {Kind: api.OpDelete}, {Kind: api.OpScan, Limit: -1}} {
		if r := y.s.Do(o); !same(r, api.Reply{Err: api.ErrArg}) {
			t.Errorf("%+v is refused ahead of any reading: %+v", o, r)
		}
	}
	_, working := y.s.Working()
	_, committed := y.s.Committed()
	_, root := y.s.Root()
	well(t, working, committed, root, y.s.Rollback(), y.s.Commit())
	if v, e := y.s.Version(); v != 2 || e != api.OK {
		t.Error(v, e)
	}
	restore()
	well(t, y.s.Put("a", "1"), y.s.Commit())
	if v := told(t, y.s); v.no != 3 || len(v.pairs) != 7 {
		t.Error(v)
	}
}

// Images that no call of this program made: calls end.
func TestStrangeImages(t *testing.T) {
	for _, f := range sizes() {
		c := wide(f)
		y, numbers := sixPairs(t, f)
		right := y.s.Meta()
		metas := map[string]func(m *api.Meta){
			"a digest of no empty tree":     func(m *api.Meta) { m.Root = api.Root{Sum: api.Digest{1}} },
			"another digest":                func(m *api.Meta) { m.Root.Sum = api.Digest{1} },
			"a leaf for a root":             func(m *api.Meta) { m.Root.Page = numbers[1] },
			"more pairs than there are":     func(m *api.Meta) { m.Root.Count = 1 << 63 },
			"a root that was laid at first": func(m *api.Meta) { m.Version, m.Root.Version = 1<<40-1, 1 },
		}
		for what, alter := range metas {
			m := right
			alter(&m)
			record, e := meta.Encode(f, m)
			well(t, e)
			image := slices.Clone(y.d.Image())
			image[0], image[1] = record, strings.Repeat("\x00", f.Page)
			d := diskOf(t, c, image)
			s := opened(t, d, c)
			sum, e := s.Root()
			if sum != m.Root.Sum || e != api.OK || s.Meta() != m {
				t.Errorf("%v: %s: %v", f, what, e)
			}
			codes(s, f)
			s = opened(t, d, c)
			for i := range 9 {
				s.Put(longKey(f, i), longVal(f, "b"))
				s.Delete(longKey(f, i+3))
			}
			s.Commit()
			codes(s, f)
		}
	}
}

// What answers an error has changed nothing: neither what is worked on, nor what is committed, nor the disk.
func TestErrorsChangeNothing(t *testing.T) {
	for _, f := range frames() {
		y := newTrial(t, wide(f))
		for i := range 12 {
			y.put(longKey(f, i), longVal(f, "a"))
		}
		y.commit()
		y.put("b", "2")
		y.remove(longKey(f, 3))
		worked, committed, image := maps.Clone(y.worked), maps.Clone(y.committed), y.d.Image()
		long := strings.Repeat("k", f.Page/16+1)
		for _, o := range []api.Op{
			{Kind: api.OpPut, Val: "x"}, {Kind: api.OpPut, Key: long, Val: "x"}, {Kind: api.OpPut, Key: "b", Val: strings.Repeat("x", f.Page/8+1)}, {Kind: api.OpPut, Key: long, Val: strings.Repeat("x", f.Page)},
			{Kind: api.OpDelete}, {Kind: api.OpDelete, Key: long}, {Kind: api.OpGet}, {Kind: api.OpGet, Key: long}, {Kind: api.OpScan, Limit: -1}, {}, {Kind: 9, Key: "b"},
		} {
			for range 3 {
				y.ask(o)
			}
		}
		y.whole()
		if !maps.Equal(y.worked, worked) || !maps.Equal(y.committed, committed) || !slices.Equal(y.d.Image(), image) {
			t.Errorf("%v: something is changed", f)
		}
	}
}
