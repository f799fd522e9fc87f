package store_test

import (
	"fmt"
	"maps"
	"math/rand"
	"slices"
	"testing"

	"heartwood/api"
	"heartwood/disk"
)

// tight is a store with few pages, and the pairs that it is to have.
type tight struct {
	t    *testing.T
	c    api.Config
	d    *disk.Disk
	have map[string]string
	full int // how many commits answered ErrFull
	well int
}

func newTight(t *testing.T, f api.Frame, most int) *tight {
	t.Helper()
	return &tight{t: t, c: api.Config{Frame: f, Most: most}, d: newDisk(t, f.Page, 2000), have: map[string]string{}}
}

// turn opens the store, makes its pairs as many as they are to be by puts and deletes of long ones, and commits. No put and no delete is refused. Of a commit that is, a file that may have more pages says that more than Most would have been counted.
func (y *tight) turn(r *rand.Rand, many int) {
	y.t.Helper()
	s := opened(y.t, y.d, y.c)
	roomy := newTwin(y.t, wide(y.c.Frame), diskOf(y.t, y.c, y.d.Image()))
	worked := maps.Clone(y.have)
	ask := func(o api.Op) {
		y.t.Helper()
		if a := byMethod(s, o); a.Err != api.OK {
			y.t.Fatalf("%v: %+v: %v", y.c, o.Kind, a.Err)
		}
		well(y.t, roomy.does(y.t, o))
	}
	for range 3 + r.Intn(6) {
		k := longKey(y.c.Frame, r.Intn(500))
		if keys := slices.Sorted(maps.Keys(worked)); len(worked) >= many && many > 0 {
			k = keys[r.Intn(len(keys))]
		}
		if many > 0 {
			v := longVal(y.c.Frame, string(rune('a'+r.Intn(26))))
			ask(api.Op{Kind: api.OpPut, Key: k, Val: v})
			worked[k] = v
		}
	}
	for len(worked) < many {
		k, v := longKey(y.c.Frame, r.Intn(500)), longVal(y.c.Frame, "x")
		ask(api.Op{Kind: api.OpPut, Key: k, Val: v})
		worked[k] = v
	}
	keys := slices.Sorted(maps.Keys(worked))
	for _, i := range r.Perm(len(keys)) {
		if len(worked) > many {
			ask(api.Op{Kind: api.OpDelete, Key: keys[i]})
			delete(worked, keys[i])
		}
	}
	was := s.Meta().Version
	e := s.Commit()
	well(y.t, roomy.does(y.t, api.Op{Kind: api.OpCommit}))
	counted := int(roomy.f.Meta().Pages)
	switch {
	case e == api.OK && counted <= y.c.Most && slices.Equal(y.d.Image(), roomy.d.Image()):
		y.have = worked
		y.well++
	case e == api.ErrFull && counted > y.c.Most && s.State() == api.ErrState:
		if 2*len(y.have)+2*len(worked)+8 <= y.c.Most {
			y.t.Fatalf("%v: full with %d pairs committed and %d worked on", y.c, len(y.have), len(worked))
		}
		y.full++
	default:
		y.t.Fatalf("%v: %v, and %d pages would be counted", y.c, e, counted)
	}
	v := told(y.t, opened(y.t, y.d, y.c))
	if v.no != roomy.f.Meta().Version && e == api.OK || v.no != was && e != api.OK || !slices.Equal(v.pairs, pairsOf(y.have)) {
		y.t.Fatalf("%v: %v, and then %v", y.c, e, v)
	}
}

// A commit is full, where nothing is refused, only if more than Most pages would be counted; and up to 240 of them only if there are pairs enough.
func TestFull(t *testing.T) {
	for i, f := range sizes() {
		t.Run(fmt.Sprint(f), func(t *testing.T) {
			t.Parallel()
			for _, most := range []int{8, 9, 10, 12, 13, 18, 31, 240} {
				r := rand.New(rand.NewSource(int64(10*most + i)))
				y := newTight(t, f, most)
				for range 16 {
					y.turn(r, r.Intn(min(6*most, 130)))
				}
				if y.well == 0 || y.full == 0 && most < 240 {
					t.Errorf("%v: %d commits are full, %d are not", y.c, y.full, y.well)
				}
			}
		})
	}
}

// Just as many pairs as are promised to do: each commit goes well, whatever was there ahead of it.
func TestJustEnough(t *testing.T) {
	for i, f := range sizes() {
		t.Run(fmt.Sprint(f), func(t *testing.T) {
			t.Parallel()
			for _, most := range []int{8, 9, 10, 11, 12, 14, 16, 17, 20, 30, 60, 140, 239, 240} {
				r := rand.New(rand.NewSource(int64(10*most + i)))
				y := newTight(t, f, most)
				for n := range 20 {
					rest := (most-8)/2 - len(y.have) // as many may be worked on
					if n%3 == 2 {
						rest = r.Intn(rest + 1)
					}
					if n%3 == 0 {
						rest = min(rest, (most-8)/4)
					}
					y.turn(r, rest)
				}
				if y.full > 0 {
					t.Errorf("%v: %d commits are full", y.c, y.full)
				}
			}
		})
	}
}

// A store whose commit was full is given up; opened again, it has what it had, and what is deleted makes room.
func TestBehindFull(t *testing.T) {
	for _, f := range frames() {
		c := api.Config{Frame: f, Most: 12}
		d := newDisk(t, f.Page, 12)
		s := opened(t, d, c)
		for i := range 12 {
			well(t, s.Put(longKey(f, i), longVal(f, "a")))
		}
		well(t, s.Commit())
		was := told(t, s)
		for i := range 400 {
			well(t, s.Put(longKey(f, i), longVal(f, "b")))
		}
		if l, e := s.Scan("", "", 0); len(l) != 400 || e != api.OK {
			t.Fatal(len(l), e)
		}
		acts := d.Acts()
		if e := s.Commit(); e != api.ErrFull || d.Acts() != acts || len(d.Waits()) > 0 {
			t.Fatalf("%v: %v", f, e)
		}
		answers(t, "full", s, f, api.ErrState)
		s = opened(t, d, c)
		if v := told(t, s); !v.is(was) {
			t.Fatalf("%v: %v, and not %v", f, v, was)
		}
		for i := range 11 {
			if has, e := s.Delete(longKey(f, i)); !has || e != api.OK {
				t.Fatal(has, e)
			}
		}
		well(t, s.Commit(), s.Put(longKey(f, 3), "c"), s.Commit(), s.Put(longKey(f, 4), "d"), s.Commit())
		if v := told(t, s); len(v.pairs) != 3 || v.no != 4 {
			t.Errorf("%v: %v", f, v)
		}
	}
}

// Nothing but a commit is an act: arms stay as they are, so neither ErrFull nor ErrIO can be answered.
func TestNoActs(t *testing.T) {
	for i, f := range sizes() {
		r := rand.New(rand.NewSource(int64(i)))
		y := newTrial(t, wide(f))
		for n := range 40 {
			y.put(longKey(f, n), longVal(f, "a"))
		}
		y.commit()
		arms := []api.Arm{{Nth: 1}, {Nth: 1, Power: true}, {On: api.ActWrite, Nth: 1}, {On: api.ActGrow, Nth: 1}, {On: api.ActSync, Nth: 1, Power: true}}
		armed(t, y.d, arms...)
		for range 600 {
			if o := y.someOp(r, 300); o.Kind != api.OpCommit {
				y.ask(o)
			}
		}
		y.whole()
		if y.d.Armed() != len(arms) || !y.d.On() {
			t.Errorf("%v: %d arms are left", f, y.d.Armed())
		}
		if e := y.s.Commit(); e != api.ErrFull && e != api.ErrIO {
			t.Errorf("%v: the first act of a commit: %v", f, e)
		}
	}
}
