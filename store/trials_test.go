package store_test

import (
	"maps"
	"slices"
	"testing"

	"heartwood/api"
	"heartwood/commit"
	"heartwood/disk"
	"heartwood/growth"
	"heartwood/store"
)

// model is a plain map that has a committed copy: what a store is to answer. Which root the copy has it does not know.
type model struct {
	frame             api.Frame
	worked, committed map[string]string
	version           uint64
}

func newModel(f api.Frame) *model {
	return &model{frame: f, worked: map[string]string{}, committed: map[string]string{}}
}

// mayPut tells whether a pair may be, by how long it is.
func (m *model) mayPut(key, val string) bool {
	return key != "" && len(key) <= m.frame.Page/16 && len(val) <= m.frame.Page/8
}

// scan are the pairs of a range in what is worked on.
func (m *model) scan(lo, hi string, limit int) []api.Pair {
	var l []api.Pair
	for _, p := range pairsOf(m.worked) {
		if p.Key >= lo && (hi == "" || p.Key < hi) && (limit == 0 || len(l) < limit) {
			l = append(l, p)
		}
	}
	return l
}

// does what an Op asks for, and answers what is due, but for the root.
func (m *model) does(o api.Op) api.Reply {
	switch o.Kind {
	case api.OpPut:
		if !m.mayPut(o.Key, o.Val) {
			return api.Reply{Err: api.ErrArg}
		}
		m.worked[o.Key] = o.Val
		return api.Reply{}
	case api.OpDelete, api.OpGet:
		if !m.mayPut(o.Key, "") {
			return api.Reply{Err: api.ErrArg}
		}
		val, has := m.worked[o.Key]
		if o.Kind == api.OpGet {
			return api.Reply{Has: has, Val: val}
		}
		delete(m.worked, o.Key)
		return api.Reply{Has: has}
	case api.OpScan:
		if o.Limit < 0 {
			return api.Reply{Err: api.ErrArg}
		}
		return api.Reply{Pairs: m.scan(o.Key, o.Val, o.Limit)}
	case api.OpCommit:
		m.committed = maps.Clone(m.worked)
		m.version++
		return api.Reply{}
	case api.OpRollback:
		m.worked = maps.Clone(m.committed)
		return api.Reply{}
	case api.OpRoot:
		return api.Reply{}
	case api.OpVersion:
		return api.Reply{Version: m.version}
	}
	return api.Reply{Err: api.ErrArg}
}

// twin is a file on a disk of its own, whose Edit is put to and committed as a store's is to be: so a commit's bytes are known.
type twin struct {
	d *disk.Disk
	f *commit.File
	x *growth.Edit
}

func newTwin(t *testing.T, c api.Config, d *disk.Disk) *twin {
	t.Helper()
	f, e := commit.Open(d, c)
	well(t, e)
	w := &twin{d: d, f: f}
	w.begin(t)
	return w
}

func (w *twin) begin(t *testing.T) {
	t.Helper()
	x, e := w.f.Edit()
	well(t, e)
	w.x = x
}

// does what an Op asks for that may be.
func (w *twin) does(t *testing.T, o api.Op) api.Errno {
	t.Helper()
	switch o.Kind {
	case api.OpPut:
		_, e := w.x.Put(o.Key, o.Val)
		return e
	case api.OpDelete:
		_, e := w.x.Delete(o.Key)
		return e
	case api.OpCommit:
		if e := w.f.Commit(w.x); e != api.OK {
			return e
		}
		w.begin(t)
	case api.OpRollback:
		w.begin(t)
	}
	return api.OK
}

// byMethod asks a store by the method of an Op's kind.
func byMethod(s *store.Store, o api.Op) (r api.Reply) {
	switch o.Kind {
	case api.OpPut:
		r.Err = s.Put(o.Key, o.Val)
	case api.OpDelete:
		r.Has, r.Err = s.Delete(o.Key)
	case api.OpGet:
		r.Val, r.Has, r.Err = s.Get(o.Key)
	case api.OpScan:
		r.Pairs, r.Err = s.Scan(o.Key, o.Val, o.Limit)
	case api.OpCommit:
		r.Err = s.Commit()
	case api.OpRollback:
		r.Err = s.Rollback()
	case api.OpRoot:
		r.Sum, r.Err = s.Root()
	case api.OpVersion:
		r.Version, r.Err = s.Version()
	default:
		r = s.Do(o)
	}
	return r
}

// same holds two replies against each other.
func same(a, b api.Reply) bool {
	return a.Err == b.Err && a.Has == b.Has && a.Val == b.Val && slices.Equal(a.Pairs, b.Pairs) && a.Sum == b.Sum && a.Version == b.Version
}

// trial is a store that is held against a model, and against a twin.
type trial struct {
	t *testing.T
	c api.Config
	d *disk.Disk
	s *store.Store
	*model
	twin  *twin
	asked int // so often, to be asked in another way each time
}

func newTrial(t *testing.T, c api.Config) *trial {
	t.Helper()
	d := newDisk(t, c.Page, c.Most)
	y := &trial{t: t, c: c, d: d, s: opened(t, d, c), model: newModel(c.Frame), twin: newTwin(t, c, newDisk(t, c.Page, c.Most))}
	y.whole()
	return y
}

// ask asks the store, by the method, by Do or by Does, and holds what it answers against the model.
func (y *trial) ask(o api.Op) {
	y.t.Helper()
	was := y.d.Acts()
	due := y.model.does(o)
	if o.Kind == api.OpRoot {
		due.Sum = y.twin.f.Meta().Root.Sum
	}
	if due.Err == api.OK {
		due.Err = y.twin.does(y.t, o)
	}
	var r api.Reply
	switch y.asked % 3 {
	case 0:
		r = byMethod(y.s, o)
	case 1:
		r = y.s.Do(o)
	case 2:
		r = y.s.Does(o)[0]
	}
	y.asked++
	if !same(r, due) {
		y.t.Fatalf("%v: asked %+v: %+v, and not %+v", y.c, o, r, due)
	}
	if o.Kind != api.OpCommit && (y.d.Acts() != was || len(y.d.Waits()) > 0) {
		y.t.Fatalf("%v: asked %+v: the disk is written to", y.c, o)
	}
	if o.Kind == api.OpCommit && !slices.Equal(y.d.Image(), y.twin.d.Image()) {
		y.t.Fatalf("%v: version %d: the disk has not what a commit of the file itself leaves there", y.c, y.version)
	}
}

func (y *trial) put(key, val string) {
	y.t.Helper()
	y.ask(api.Op{Kind: api.OpPut, Key: key, Val: val})
}

func (y *trial) remove(key string) {
	y.t.Helper()
	y.ask(api.Op{Kind: api.OpDelete, Key: key})
}

func (y *trial) get(key string) {
	y.t.Helper()
	y.ask(api.Op{Kind: api.OpGet, Key: key})
}

func (y *trial) commit() {
	y.t.Helper()
	y.ask(api.Op{Kind: api.OpCommit})
}

func (y *trial) rollback() {
	y.t.Helper()
	y.ask(api.Op{Kind: api.OpRollback})
}

// reopen opens the disk again: what is committed counts as worked on.
func (y *trial) reopen() {
	y.t.Helper()
	old := y.s
	y.s = opened(y.t, y.d, y.c)
	if old.State() != api.ErrState {
		y.t.Fatalf("%v: the store that was there: %v", y.c, old.State())
	}
	y.worked = maps.Clone(y.committed)
	y.twin = newTwin(y.t, y.c, y.twin.d)
}

// whole holds all that the store tells against the model.
func (y *trial) whole() {
	y.t.Helper()
	for k := range y.worked {
		y.get(k)
	}
	for k := range y.committed {
		y.get(k)
	}
	y.get("none of that name")
	y.ask(api.Op{Kind: api.OpScan})
	y.ask(api.Op{Kind: api.OpRoot})
	y.ask(api.Op{Kind: api.OpVersion})
	due := version{y.version, y.twin.f.Meta().Root.Sum, pairsOf(y.committed)}
	if v := told(y.t, y.s); !v.is(due) {
		y.t.Fatalf("%v: committed is %v, and not %v", y.c, v, due)
	}
	if v := durable(y.t, y.c.Frame, y.d.Image()); !v.is(due) {
		y.t.Fatalf("%v: durable is %v, and not %v", y.c, v, due)
	}
	tree, e := y.s.Working()
	well(y.t, e)
	if tree.Root() != y.twin.x.Root() || tree.Frame() != y.c.Frame || !slices.Equal(inTree(y.t, tree), pairsOf(y.worked)) {
		y.t.Fatalf("%v: Working is %+v, and not %+v", y.c, tree.Root(), y.twin.x.Root())
	}
}
