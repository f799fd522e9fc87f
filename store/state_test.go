package store_test

import (
	"fmt"
	"slices"
	"strings"
	"testing"

	"heartwood/api"
	"heartwood/commit"
	"heartwood/disk"
	"heartwood/store"
	"heartwood/trunk"
)

// alone answers an error that a call answered, or -1, if something is told beside it.
func alone(e api.Errno, nothing bool) api.Errno {
	if e != api.OK && !nothing {
		return -1
	}
	return e
}

// allKinds are Ops of each kind, with arguments that may be and with such as may not be, and of kinds that there are none of.
func allKinds(f api.Frame) []api.Op {
	long := strings.Repeat("k", f.Page)
	return []api.Op{
		{Kind: api.OpPut, Key: "a", Val: "1"}, {Kind: api.OpPut}, {Kind: api.OpPut, Key: long, Val: long},
		{Kind: api.OpDelete, Key: "a"}, {Kind: api.OpDelete}, {Kind: api.OpDelete, Key: long},
		{Kind: api.OpGet, Key: "a"}, {Kind: api.OpGet}, {Kind: api.OpGet, Key: long},
		{Kind: api.OpScan}, {Kind: api.OpScan, Key: "a", Val: "b", Limit: 1}, {Kind: api.OpScan, Key: "b", Val: "a"}, {Kind: api.OpScan, Limit: -1},
		{Kind: api.OpCommit}, {Kind: api.OpRollback}, {Kind: api.OpRoot}, {Kind: api.OpVersion},
		{}, {Kind: 9}, {Kind: 9, Key: "a"}, {Kind: 255},
	}
}

// codes are what all calls of a store answer that answer an error, each with all kinds of arguments.
func codes(s *store.Store, f api.Frame) map[string]api.Errno {
	l := map[string]api.Errno{}
	for i, o := range allKinds(f) {
		r, due := s.Do(o), api.Reply{}
		due.Err = r.Err
		l[fmt.Sprint("Do ", i)] = alone(r.Err, same(r, due))
		if o.Kind >= api.OpPut && o.Kind <= api.OpVersion {
			r = byMethod(s, o)
			due.Err = r.Err
			l[fmt.Sprint("method ", i)] = alone(r.Err, same(r, due))
		}
	}
	for i, r := range s.Does(allKinds(f)...) {
		l[fmt.Sprint("Does ", i)] = alone(r.Err, same(r, api.Reply{Err: r.Err}))
	}
	for what, call := range map[string]func() (*trunk.Tree, api.Errno){"Working": s.Working, "Committed": s.Committed} {
		tree, e := call()
		l[what] = alone(e, tree == nil)
	}
	return l
}

// answers holds what all calls of a store answer against one error.
func answers(t *testing.T, what string, s *store.Store, f api.Frame, due api.Errno) {
	t.Helper()
	l := codes(s, f)
	if len(l) != 3*21-4+2 {
		t.Fatalf("%d calls", len(l))
	}
	for call, e := range l {
		if e != due {
			t.Errorf("%s: %s: %v, and not %v", what, call, e, due)
		}
	}
	if n := len(s.Does()); n > 0 {
		t.Errorf("%s: Does of nothing: %d replies", what, n)
	}
}

// No store, and those that Open did not make.
func TestNoStore(t *testing.T) {
	refused, e := store.Open(newDisk(t, 1024, 64), api.Config{})
	if e != api.ErrArg {
		t.Fatal(e)
	}
	f, e := commit.Open(newDisk(t, 1024, 64), small())
	well(t, e)
	other, e := commit.Open(newDisk(t, 1024, 64), small())
	well(t, e)
	without, exchanged := opened(t, newDisk(t, 1024, 64), small()), opened(t, newDisk(t, 1024, 64), small())
	well(t, without.Put("a", "1"), exchanged.Put("a", "1"))
	without.File, exchanged.File = nil, other
	none := map[string]*store.Store{
		"nil": nil, "zero": {}, "one that somebody gave a file": {File: f}, "one whose Open refused": refused,
		"one whose file somebody took away": without, "one whose file somebody exchanged": exchanged,
		"one with a file that Open did not make": {File: &commit.File{}},
	}
	for what, s := range none {
		answers(t, what, s, small().Frame, api.ErrNil)
	}
	if f.Meta().Version != 0 || other.Meta().Version != 0 || f.State() != api.OK {
		t.Error("something was done to a file")
	}
}

// known is a store with something worked on at version 2.
type known struct {
	d         *disk.Disk
	s         *store.Store
	m         api.Meta
	working   *trunk.Tree
	committed *trunk.Tree
}

func knownStore(t *testing.T) *known {
	t.Helper()
	k := &known{d: newDisk(t, 1024, 64)}
	k.s = opened(t, k.d, small())
	well(t, k.s.Put("a", "1"), k.s.Commit(), k.s.Put("b", "2"), k.s.Commit(), k.s.Put("a", "9"))
	var e, code api.Errno
	k.working, e = k.s.Working()
	k.committed, code = k.s.Committed()
	well(t, e, code)
	k.m = k.s.Meta()
	return k
}

// is holds all that can be asked of the store against its state; what asks none tells what it told last.
func (k *known) is(t *testing.T, what string, due api.Errno) {
	t.Helper()
	was := k.d.Acts()
	if due != api.OK {
		answers(t, what, k.s, small().Frame, due)
	}
	if k.d.Acts() != was || k.s.State() != due || k.s.Meta() != k.m || k.s.Config() != small() {
		t.Errorf("%s: State %v, Meta %+v", what, k.s.State(), k.s.Meta())
	}
	if val, _, e := k.committed.Get("a"); e != due || (e == api.OK) != (val == "1") {
		t.Errorf("%s: a tree that was told ahead: %q, %v", what, val, e)
	}
	k.working.Get("a") // all of it is in memory, so it may be told yet
}

func (k *known) giveUp(t *testing.T) {
	t.Helper()
	armed(t, k.d, api.Arm{On: api.ActWrite, Nth: 1})
	if e := k.s.Commit(); e != api.ErrIO {
		t.Fatal(e)
	}
}

func (k *known) crash(t *testing.T) {
	t.Helper()
	well(t, k.d.Crash())
}

func (k *known) wake(t *testing.T) {
	t.Helper()
	well(t, k.d.Wake())
}

func (k *known) pass(t *testing.T) {
	t.Helper()
	opened(t, k.d, small())
}

// Given up, without power and passed by, each at every call, alone and together: given up is told first, then the power, then who passed by; ahead of whatever else there is to be refused.
func TestStates(t *testing.T) {
	k := knownStore(t)
	k.is(t, "as it was opened", api.OK)
	k.giveUp(t)
	k.is(t, "given up", api.ErrState)
	k.crash(t)
	k.is(t, "given up, and off", api.ErrState)
	k.wake(t)
	k.is(t, "given up, and dead", api.ErrState)
	k.pass(t)
	k.is(t, "given up, dead, and passed by", api.ErrState)

	k = knownStore(t)
	k.crash(t)
	k.is(t, "off", api.ErrOff)
	k.wake(t)
	k.is(t, "dead", api.ErrOff)
	k.pass(t)
	k.is(t, "dead, and passed by", api.ErrOff)

	k = knownStore(t)
	k.pass(t)
	k.is(t, "passed by", api.ErrState)
	k.crash(t)
	k.is(t, "passed by, and off", api.ErrOff)
	k.wake(t)
	k.is(t, "passed by, and dead", api.ErrOff)
}

// Who else can pass a store by, or give its file up.
func TestOtherStates(t *testing.T) {
	k := knownStore(t)
	if _, e := commit.Open(k.d, small()); e != api.OK {
		t.Fatal(e)
	}
	k.is(t, "passed by by a file", api.ErrState)

	k = knownStore(t)
	if _, e := k.d.Take(); e != api.OK {
		t.Fatal(e)
	}
	k.is(t, "the disk was taken by nobody's store", api.ErrState)

	k = knownStore(t)
	x := another(t, k.s, "c", "3")
	armed(t, k.d, api.Arm{On: api.ActSync, Nth: 1})
	if e := k.s.File.Commit(x); e != api.ErrIO {
		t.Fatal(e)
	}
	k.is(t, "given up by a commit of its file", api.ErrState)

	k = knownStore(t)
	k.d.Fork().Crash()
	opened(t, k.d.Fork(), small())
	k.is(t, "a fork of the disk has its own life", api.OK)

	k = knownStore(t)
	if s, e := store.Open(k.d, api.Config{Frame: api.Frame{Page: 1024, Width: 31}, Most: 64}); s != nil || e != api.ErrForeign {
		t.Fatal(e)
	}
	armed(t, k.d, api.Arm{On: api.ActSync, Nth: 1})
	if s, e := store.Open(k.d, small()); s != nil || e != api.ErrIO {
		t.Fatal(e)
	}
	k.is(t, "an opening that is refused takes nothing", api.OK)
	if val, is, e := k.s.Get("a"); val != "9" || !is || e != api.OK {
		t.Error("what is worked on:", val, is, e)
	}
}

// Two stores over one disk, by turns: whoever opened it last can do all, the other one nothing, and what this one worked on is nowhere.
func TestTwoStores(t *testing.T) {
	for _, f := range sizes() {
		c := wide(f)
		d := newDisk(t, f.Page, 5000)
		a := opened(t, d, c)
		for n := range uint64(10) {
			well(t, a.Put("a", fmt.Sprint(n)), a.Commit(), a.Put("a", "lost"), a.Put(fmt.Sprint("lost", n), ""))
			b := opened(t, d, c)
			was := d.Acts()
			if a.Commit() != api.ErrState || a.Rollback() != api.ErrState || a.Put("a", "x") != api.ErrState || d.Acts() != was {
				t.Fatal("the older store works on")
			}
			v := told(t, b)
			if l, e := b.Scan("", "", 0); v.no != n+1 || e != api.OK || !slices.Equal(l, []api.Pair{{Key: "a", Val: fmt.Sprint(n)}}) {
				t.Fatal(v, l, e)
			}
			a = b
		}
	}
}

// What Open refuses is what commit's Open refuses of the same disk and Config, by the same acts; beside an error there is no store.
func TestOpenRefuses(t *testing.T) {
	for _, e := range []struct {
		d *disk.Disk
		c api.Config
	}{{nil, small()}, {nil, api.Config{}}, {&disk.Disk{}, small()}} {
		if s, e := store.Open(e.d, e.c); s != nil || e != api.ErrNil {
			t.Error(e)
		}
	}
	seen := map[api.Errno]int{}
	for what, d := range disksToOpen(t) {
		for _, c := range configsToOpen() {
			a, b := d.Fork(), d.Fork()
			s, e := store.Open(a, c)
			_, due := commit.Open(b, c)
			if e != due || (s == nil) != (e != api.OK) || a.Acts() != b.Acts() || a.Taken() != b.Taken() || a.Armed() != b.Armed() {
				t.Errorf("%s: Open(.., %v): %v, and not %v", what, c, e, due)
			}
			seen[e]++
			if e == api.OK && (s.Config() != c || s.State() != api.OK) {
				t.Errorf("%s: %v", what, s.Config())
			}
		}
	}
	for _, e := range []api.Errno{api.OK, api.ErrArg, api.ErrIO, api.ErrOff, api.ErrForeign, api.ErrMeta, api.ErrBad} {
		if seen[e] == 0 {
			t.Errorf("no opening answers %v", e)
		}
	}
}

func configsToOpen() []api.Config {
	l := []api.Config{{}, small()}
	for _, c := range []api.Config{{Frame: api.Frame{Page: 1024, Width: 31}, Most: 64}, {Frame: api.Frame{Page: 2048, Width: 32}, Most: 64}, {Frame: api.Frame{Page: 1000, Width: 32}, Most: 64}} {
		l = append(l, c)
	}
	for _, width := range []int{-1, 0, 33} {
		l = append(l, api.Config{Frame: api.Frame{Page: 1024, Width: width}, Most: 64})
	}
	for _, most := range []int{-1, 0, 7, 8, 9, 63, 65, 65536, 65537} {
		l = append(l, api.Config{Frame: small().Frame, Most: most})
	}
	return l
}

// disksToOpen are disks of all kinds: new, with versions, without power, with arms, spoilt.
func disksToOpen(t *testing.T) map[string]*disk.Disk {
	t.Helper()
	full := newDisk(t, 1024, 64)
	s := opened(t, full, small())
	for i := range 12 {
		well(t, s.Put(longKey(small().Frame, i), longVal(small().Frame, "a")), s.Commit())
	}
	image := full.Image()
	spoilt := func(no int, by string) *disk.Disk {
		l := slices.Clone(image)
		l[no] = by + l[no][len(by):]
		return diskOf(t, small(), l)
	}
	bothSlots := spoilt(0, "x").Image()
	bothSlots[1] = "x" + bothSlots[1][1:]
	lists := s.Lists()
	if len(lists) != 1 {
		t.Fatal(lists)
	}
	off, refusing, losing := full.Fork(), full.Fork(), full.Fork()
	well(t, off.Crash())
	armed(t, refusing, api.Arm{On: api.ActSync, Nth: 1})
	armed(t, losing, api.Arm{On: api.ActSync, Nth: 1, Power: true})
	return map[string]*disk.Disk{
		"new": newDisk(t, 1024, 64), "of other pages": newDisk(t, 2048, 64), "small": newDisk(t, 1024, 8), "with versions": full,
		"off": off, "refusing": refusing, "losing its power": losing, "whose slots are spoilt": diskOf(t, small(), bothSlots),
		"one slot is spoilt": spoilt(0, "x"), "the list is spoilt": spoilt(int(lists[0]), "x"), "a blank image": diskOf(t, small(), []string{image[0], image[1]}),
	}
}

// Behind a loss of power the disk is opened anew; each store is dead behind the next one.
func TestBehindWake(t *testing.T) {
	d := newDisk(t, 1024, 64)
	old := opened(t, d, small())
	for i := range 4 {
		well(t, old.Put("a", fmt.Sprint(i)), old.Commit(), old.Put("a", "lost"), d.Crash(), d.Wake())
		s := opened(t, d, small())
		if val, _, e := s.Get("a"); val != fmt.Sprint(i) || e != api.OK {
			t.Error(val, e)
		}
		answers(t, "dead", old, small().Frame, api.ErrOff)
		old = s
	}
}
