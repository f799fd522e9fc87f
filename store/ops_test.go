package store_test

import (
	"slices"
	"strings"
	"testing"

	"heartwood/api"
)

// What Do of each Kind tells, field by field: the fields of api.Reply that are its own, and no others. Fields of the Op that its Kind does not use say nothing.
func TestDoEachKind(t *testing.T) {
	for _, f := range frames() {
		y := newTrial(t, wide(f))
		long := strings.Repeat("k", f.Page)
		y.s.Put("b", "2")
		well(t, y.s.Commit(), y.s.Put("c", ""))
		root, _ := y.s.Root()
		steps := []struct {
			o   api.Op
			due api.Reply
		}{
			{api.Op{Kind: api.OpPut, Key: "a", Val: "1", Limit: -7}, api.Reply{}},
			{api.Op{Kind: api.OpPut, Key: "a", Val: "1"}, api.Reply{}}, // that there was one is not told
			{api.Op{Kind: api.OpPut, Key: "a", Val: long}, api.Reply{Err: api.ErrArg}},
			{api.Op{Kind: api.OpPut, Val: "1"}, api.Reply{Err: api.ErrArg}},
			{api.Op{Kind: api.OpGet, Key: "a", Val: long, Limit: -7}, api.Reply{Has: true, Val: "1"}},
			{api.Op{Kind: api.OpGet, Key: "c"}, api.Reply{Has: true}},
			{api.Op{Kind: api.OpGet, Key: "d"}, api.Reply{}},
			{api.Op{Kind: api.OpGet, Key: long}, api.Reply{Err: api.ErrArg}},
			{api.Op{Kind: api.OpScan}, api.Reply{Pairs: []api.Pair{{Key: "a", Val: "1"}, {Key: "b", Val: "2"}, {Key: "c"}}}},
			{api.Op{Kind: api.OpScan, Key: "b", Val: "c"}, api.Reply{Pairs: []api.Pair{{Key: "b", Val: "2"}}}},
			{api.Op{Kind: api.OpScan, Key: "b", Limit: 1}, api.Reply{Pairs: []api.Pair{{Key: "b", Val: "2"}}}},
			{api.Op{Kind: api.OpScan, Key: "c", Val: "b"}, api.Reply{}},
			{api.Op{Kind: api.OpScan, Key: long, Val: long + long}, api.Reply{}},
			{api.Op{Kind: api.OpScan, Limit: -1}, api.Reply{Err: api.ErrArg}},
			{api.Op{Kind: api.OpDelete, Key: "b", Val: long, Limit: -7}, api.Reply{Has: true}},
			{api.Op{Kind: api.OpDelete, Key: "b"}, api.Reply{}},
			{api.Op{Kind: api.OpDelete}, api.Reply{Err: api.ErrArg}},
			{api.Op{Kind: api.OpRoot, Key: long, Val: long, Limit: -7}, api.Reply{Sum: root}},
			{api.Op{Kind: api.OpVersion, Key: long, Val: long, Limit: -7}, api.Reply{Version: 1}},
			{api.Op{Kind: api.OpRollback, Key: long, Val: long, Limit: -7}, api.Reply{}},
			{api.Op{Kind: api.OpScan}, api.Reply{Pairs: []api.Pair{{Key: "b", Val: "2"}}}},
			{api.Op{Kind: api.OpCommit, Key: long, Val: long, Limit: -7}, api.Reply{}},
			{api.Op{Kind: api.OpVersion}, api.Reply{Version: 2}},
			{api.Op{Kind: api.OpRoot}, api.Reply{Sum: root}},
		}
		for i, x := range steps {
			if r := y.s.Do(x.o); !same(r, x.due) {
				t.Errorf("%v: step %d: %+v, and not %+v", f, i, r, x.due)
			}
		}
	}
}

// Kinds that there are none of: refused, and nothing is done, whatever else the Op says.
func TestNoKind(t *testing.T) {
	y := newTrial(t, small())
	y.put("a", "1")
	y.commit()
	y.put("b", "2")
	for kind := range 256 {
		if kind >= 1 && kind <= 8 {
			continue
		}
		for _, o := range []api.Op{{}, {Key: "a"}, {Key: "a", Val: "9"}, {Key: "a", Val: "c", Limit: -1}} {
			o.Kind = api.OpKind(kind)
			y.ask(o)
			if r := y.s.Do(o); !same(r, api.Reply{Err: api.ErrArg}) {
				t.Errorf("Kind %d: %+v", kind, r)
			}
		}
	}
	y.whole()
}

// Does of nothing, of one, and of many: each Op behind the other, each with its own reply, also behind one that is refused.
func TestDoesInOrder(t *testing.T) {
	for _, f := range frames() {
		d := newDisk(t, f.Page, 64)
		s := opened(t, d, api.Config{Frame: f, Most: 64})
		was := d.Acts()
		if len(s.Does()) > 0 || len(s.Does([]api.Op{}...)) > 0 || d.Acts() != was || s.Meta().Version != 0 {
			t.Errorf("%v: Does of nothing", f)
		}
		get := api.Op{Kind: api.OpGet, Key: "a"}
		put := func(val string) api.Op { return api.Op{Kind: api.OpPut, Key: "a", Val: val} }
		l := s.Does(get, put("1"), get, api.Op{}, put("2"), put(strings.Repeat("v", f.Page)), get, api.Op{Kind: api.OpCommit}, put("3"), get, api.Op{Kind: api.OpRollback}, get, api.Op{Kind: api.OpVersion})
		due := []api.Reply{{}, {}, {Has: true, Val: "1"}, {Err: api.ErrArg}, {}, {Err: api.ErrArg}, {Has: true, Val: "2"}, {}, {}, {Has: true, Val: "3"}, {}, {Has: true, Val: "2"}, {Version: 1}}
		if !slices.EqualFunc(l, due, same) {
			t.Errorf("%v: %+v", f, l)
		}
	}
}

// A commit within Does that fails: what stands behind it is answered by the state that the store is in then, and not left out.
func TestDoesBehindFailure(t *testing.T) {
	all := allKinds(small().Frame)
	for _, power := range []bool{false, true} {
		d := newDisk(t, 1024, 64)
		s := opened(t, d, small())
		armed(t, d, api.Arm{On: api.ActSync, Nth: 1, Power: power})
		ops := append([]api.Op{{Kind: api.OpPut, Key: "a", Val: "1"}, {Kind: api.OpCommit}}, all...)
		l := s.Does(ops...)
		first := api.ErrIO
		if power {
			first = api.ErrOff
		}
		if len(l) != len(ops) || !same(l[0], api.Reply{}) || !same(l[1], api.Reply{Err: first}) {
			t.Fatalf("%d replies: %+v", len(l), l[:2])
		}
		for i, r := range l[2:] {
			if !same(r, api.Reply{Err: api.ErrState}) {
				t.Errorf("%+v: %+v", all[i], r)
			}
		}
	}
}
