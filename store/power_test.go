package store_test

import (
	"fmt"
	"maps"
	"math/rand"
	"slices"
	"strings"
	"testing"

	"heartwood/api"
	"heartwood/disk"
	"heartwood/store"
)

// scene is what a disk has, and what a store over it is asked then; what comes of it is not committed yet.
type scene struct {
	c     api.Config
	image []string
	ops   []api.Op
}

// played answers the store that has come to the scene, on a disk of its own.
func (x scene) played(t *testing.T) (*disk.Disk, *store.Store) {
	t.Helper()
	d := diskOf(t, x.c, x.image)
	s := opened(t, d, x.c)
	for i, r := range s.Does(x.ops...) {
		if r.Err != api.OK {
			t.Fatalf("%+v: %v", x.ops[i], r.Err)
		}
	}
	return d, s
}

// puts and deletes of long pairs.
func puts(f api.Frame, from, many int, by string) []api.Op {
	var l []api.Op
	for i := range many {
		l = append(l, api.Op{Kind: api.OpPut, Key: longKey(f, from+i), Val: longVal(f, by)})
	}
	return l
}

func deletes(f api.Frame, from, many int) []api.Op {
	var l []api.Op
	for i := range many {
		l = append(l, api.Op{Kind: api.OpDelete, Key: longKey(f, from+i)})
	}
	return l
}

// committing are Ops with a commit behind them.
func committing(ops ...[]api.Op) []api.Op {
	return append(slices.Concat(ops...), api.Op{Kind: api.OpCommit})
}

// imageOf is what a disk has behind Ops.
func imageOf(t *testing.T, c api.Config, ops ...[]api.Op) []string {
	t.Helper()
	d, _ := scene{c: c, ops: slices.Concat(ops...)}.played(t)
	return d.Image()
}

// beyond is an image with pages beyond the count: a commit had the disk grow, and was refused.
func beyond(t *testing.T, c api.Config, image []string) []string {
	t.Helper()
	d, s := scene{c, image, puts(c.Frame, 100, 8, "z")}.played(t)
	armed(t, d, api.Arm{On: api.ActSync, Nth: 1})
	if e := s.Commit(); e != api.ErrIO {
		t.Fatal(e)
	}
	opened(t, d, c)
	if len(d.Image()) <= len(image) {
		t.Fatal("the disk has not grown")
	}
	return d.Image()
}

// scenes are commits of all kinds.
func scenes(t *testing.T, f api.Frame) map[string]scene {
	t.Helper()
	c := wide(f)
	one := imageOf(t, c, committing(puts(f, 0, 1, "a")))
	grown := imageOf(t, c, committing(puts(f, 0, 16, "a")), committing(puts(f, 3, 2, "b")))
	rolled := slices.Concat(puts(f, 0, 9, "c"), []api.Op{{Kind: api.OpRollback}}, puts(f, 9, 1, "c"))
	return map[string]scene{
		"the first":                             {c, nil, puts(f, 0, 1, "a")},
		"the first, of several levels":          {c, nil, puts(f, 0, 14, "a")},
		"the first, of nothing":                 {c, nil, nil},
		"the second":                            {c, one, puts(f, 0, 1, "b")},
		"one leaf of several levels":            {c, grown, puts(f, 9, 1, "c")},
		"some leaves":                           {c, grown, slices.Concat(puts(f, 5, 3, "c"), deletes(f, 10, 4))},
		"nothing changed":                       {c, grown, nil},
		"behind a rollback":                     {c, grown, rolled},
		"emptied":                               {c, grown, deletes(f, 0, 16)},
		"on a disk with pages beyond the count": {c, beyond(t, c, grown), puts(f, 9, 1, "c")},
	}
}

// stage is a scene whose commit is done over and over: by which acts, from which version to which.
type stage struct {
	scene
	acts          []api.Act
	before, after version
}

func staged(t *testing.T, x scene) *stage {
	t.Helper()
	d, s := x.played(t)
	g := &stage{scene: x, before: durable(t, x.c.Frame, d.Image())}
	was := d.Acts()
	worked, e := s.Scan("", "", 0)
	well(t, e, s.Commit())
	n := since(was, d.Acts())
	g.after = durable(t, x.c.Frame, d.Image())
	if !told(t, s).is(g.after) || g.after.no != g.before.no+1 || !slices.Equal(g.after.pairs, worked) || n.Syncs != 2 || n.Grows > 1 {
		t.Fatalf("%v to %v by %+v", g.before, g.after, n)
	}
	g.acts = slices.Repeat([]api.Act{api.ActGrow}, n.Grows)
	g.acts = append(g.acts, slices.Repeat([]api.Act{api.ActWrite}, n.Writes-1)...)
	g.acts = append(g.acts, api.ActSync, api.ActWrite, api.ActSync)
	return g
}

// record is the place of the act that writes the record.
func (g *stage) record() int { return len(g.acts) - 2 }

// waiting is how many things wait when the act of a place is done.
func (g *stage) waiting(at int) int {
	if at >= g.record() {
		return at - g.record()
	}
	return at
}

// due is the version that is to be there, if the record has come, or has not.
func (g *stage) due(newer bool) version {
	if newer {
		return g.after
	}
	return g.before
}

// refusal is what is answered where an act is refused.
func refusal(a api.Act) api.Errno {
	if a == api.ActGrow {
		return api.ErrFull
	}
	return api.ErrIO
}

// commits commits by the method, or by Do.
func commits(s *store.Store, byDo bool) api.Errno {
	if byDo {
		return s.Do(api.Op{Kind: api.OpCommit}).Err
	}
	return s.Commit()
}

// eachScene runs a test for every scene in frames of all page sizes.
func eachScene(t *testing.T, test func(t *testing.T, g *stage)) {
	for _, f := range sizes() {
		for what, x := range scenes(t, f) {
			t.Run(fmt.Sprint(f, what), func(t *testing.T) {
				t.Parallel()
				test(t, staged(t, x))
			})
		}
	}
}

// comes opens the disk again, which is to be at a version, whole.
func (g *stage) comes(t *testing.T, d *disk.Disk, due version) *store.Store {
	t.Helper()
	s := opened(t, d, g.c)
	l, e := s.Scan("", "", 0)
	if v := told(t, s); !v.is(due) || e != api.OK || !slices.Equal(l, due.pairs) {
		t.Fatalf("%v, and not %v", v, due)
	}
	if v := durable(t, g.c.Frame, d.Image()); !v.is(due) {
		t.Fatalf("durable is %v, and not %v", v, due)
	}
	return s
}

// keeps sees to it that later losses of power change nothing, also while the disk is opened, or something is worked on; and that the store can be committed to.
func (g *stage) keeps(t *testing.T, d *disk.Disk, due version) {
	t.Helper()
	s := g.comes(t, d, due)
	for i, fates := range [][]api.Fate{nil, {255, 255, 255}, {1, 0, 170}} {
		well(t, s.Put("lost", "1"), d.Crash(fates...), d.Wake())
		answers(t, "dead", s, g.c.Frame, api.ErrOff)
		armed(t, d, api.Arm{On: api.ActSync, Nth: 1, Power: true, Fates: fates})
		if s, e := store.Open(d, g.c); s != nil || e != api.ErrOff {
			t.Fatal("the power goes while it is opened", e)
		}
		if s, e := store.Open(d, g.c); s != nil || e != api.ErrOff {
			t.Fatal("the power is off", e)
		}
		well(t, d.Wake())
		if i == 1 {
			armed(t, d, api.Arm{Nth: 1})
			if s, e := store.Open(d, g.c); s != nil || e != api.ErrIO {
				t.Fatal("the opening is refused", e)
			}
		}
		s = g.comes(t, d, due)
	}
	well(t, s.Put("there", "1"), s.Commit())
	if val, is, e := s.Get("there"); val != "1" || !is || e != api.OK || s.Meta().Version != due.no+1 {
		t.Fatal(val, is, e)
	}
}

// Every act of a commit is refused in its turn.
func TestEachActRefused(t *testing.T) {
	eachScene(t, func(t *testing.T, g *stage) {
		for at, a := range g.acts {
			d, s := g.played(t)
			armed(t, d, api.Arm{Nth: at + 1})
			if e := commits(s, at%2 == 1); e != refusal(a) || d.Armed() > 0 {
				t.Fatalf("act %d: %v", at, e)
			}
			answers(t, "given up", s, g.c.Frame, api.ErrState)
			g.comes(t, d, g.due(at == len(g.acts)-1)) // then the record was seen, and the opening synced it
			answers(t, "given up", s, g.c.Frame, api.ErrState)
			g.keeps(t, d, g.due(at == len(g.acts)-1))
		}
	})
}

// fatesFor are kinds of fates for so many things that wait.
func fatesFor(r *rand.Rand, things int) [][]api.Fate {
	all := slices.Repeat([]api.Fate{255}, things)
	l := [][]api.Fate{nil, all}
	for range 2 {
		some := make([]api.Fate, things)
		for i := range some {
			some[i] = api.Fate(r.Intn(256))
		}
		l = append(l, some)
	}
	for i := range things {
		alone, others := make([]api.Fate, things), slices.Clone(all)
		alone[i], others[i] = 255, 0
		l = append(l, alone, others)
	}
	for s := range 8 {
		if things == 1 {
			l = append(l, []api.Fate{1 << s}, []api.Fate{255 &^ (1 << s), 255, 255})
		}
	}
	return l
}

// has tells whether the record has come, if it waits alone, with these fates.
func has(fates []api.Fate) bool { return len(fates) > 0 && fates[0]&1 == 1 }

// The power goes at every act of a commit, with every kind of fates; of those where many things wait, some.
func TestEachActLost(t *testing.T) {
	eachScene(t, func(t *testing.T, g *stage) {
		r := rand.New(rand.NewSource(4))
		for at, a := range g.acts {
			things := g.waiting(at)
			if a != api.ActSync {
				things++
			}
			for i, fates := range fatesFor(r, things) {
				if i > 3 && at < g.record() && r.Intn(things+1) > 1 {
					continue
				}
				d, s := g.played(t)
				armed(t, d, api.Arm{Nth: at + 1, Power: true, Fates: fates})
				if e := commits(s, i%2 == 1); e != api.ErrOff || d.On() {
					t.Fatalf("act %d, fates %v: %v", at, fates, e)
				}
				answers(t, "given up", s, g.c.Frame, api.ErrState)
				well(t, d.Wake())
				due := g.due(at >= g.record() && has(fates))
				g.comes(t, d, due)
				answers(t, "given up", s, g.c.Frame, api.ErrState)
				if i == 1 {
					g.keeps(t, d, due)
				}
			}
		}
	})
}

// The power goes behind a refusal, by itself or while the disk is opened: what was not synced yet waits, and may be lost or come; and so it is behind an opening that is refused.
func TestLostBehindRefusal(t *testing.T) {
	eachScene(t, func(t *testing.T, g *stage) {
		r := rand.New(rand.NewSource(6))
		last := len(g.acts) - 1
		for at, a := range g.acts {
			for i, fates := range fatesFor(r, g.waiting(at)) {
				if at < last && i > 2 {
					break
				}
				d, s := g.played(t)
				armed(t, d, api.Arm{Nth: at + 1})
				if e := s.Commit(); e != refusal(a) {
					t.Fatalf("act %d: %v", at, e)
				}
				for range r.Intn(3) {
					armed(t, d, api.Arm{On: api.ActSync, Nth: 1})
					if s, e := store.Open(d, g.c); s != nil || e != api.ErrIO {
						t.Fatal("the opening is refused", e)
					}
				}
				if i%2 == 0 {
					well(t, d.Crash(fates...))
				} else {
					armed(t, d, api.Arm{On: api.ActSync, Nth: 1, Power: true, Fates: fates})
					if s, e := store.Open(d, g.c); s != nil || e != api.ErrOff {
						t.Fatal("the power goes while it is opened", e)
					}
				}
				answers(t, "given up", s, g.c.Frame, api.ErrState)
				well(t, d.Wake())
				due := g.due(at == last && has(fates))
				g.comes(t, d, due)
				if i%4 == at%4 {
					g.keeps(t, d, due)
				}
			}
		}
	})
}

// The power goes behind a commit that went well, or ahead of one: the one is there, the other is not.
func TestLostOutsideCommit(t *testing.T) {
	eachScene(t, func(t *testing.T, g *stage) {
		for i, fates := range [][]api.Fate{nil, {255}, {0, 1, 2}} {
			d, s := g.played(t)
			well(t, d.Crash(fates...))
			answers(t, "off", s, g.c.Frame, api.ErrOff)
			well(t, d.Wake())
			g.keeps(t, d, g.before)
			d, s = g.played(t)
			well(t, commits(s, i == 1), s.Put("lost", "1"), d.Crash(fates...))
			answers(t, "off", s, g.c.Frame, api.ErrOff)
			well(t, d.Wake())
			g.keeps(t, d, g.after)
		}
	})
}

// someArms puts arms by chance, if the power is on and there are few.
func someArms(t *testing.T, r *rand.Rand, d *disk.Disk) {
	t.Helper()
	for range r.Intn(3) {
		a := api.Arm{On: api.Act(r.Intn(4)), Nth: 1 + r.Intn(6), Power: r.Intn(2) == 0}
		if r.Intn(3) == 0 {
			a.On, a.Nth = api.ActSync, 2 // the one behind the record
		}
		for range r.Intn(12) {
			a.Fates = append(a.Fates, []api.Fate{0, 255, api.Fate(r.Intn(256))}[r.Intn(3)])
		}
		if d.On() && d.Armed() < 20 {
			armed(t, d, a)
		}
	}
}

// openedAtLast opens the disk, which refuses and loses its power in the midst of it, till that goes well.
func openedAtLast(t *testing.T, r *rand.Rand, d *disk.Disk, c api.Config) *store.Store {
	t.Helper()
	for {
		someArms(t, r, d)
		if r.Intn(5) == 0 {
			d.Crash(api.Fate(r.Intn(256)), api.Fate(r.Intn(256)))
		}
		if !d.On() {
			d.Wake()
		}
		s, e := store.Open(d, c)
		if e == api.OK {
			return s
		}
		if s != nil || e != api.ErrIO && e != api.ErrOff {
			t.Fatal(e)
		}
	}
}

// Refusals and losses of power, over and over, in commits, between them and in openings: each opening that goes well is at the version of the last commit that went well, or at that of the one that was under way.
func TestOverAndOver(t *testing.T) {
	for i, f := range sizes() {
		for round := range 4 {
			t.Run(fmt.Sprint(f, round), func(t *testing.T) {
				t.Parallel()
				r := rand.New(rand.NewSource(int64(1000*i + round)))
				c := wide(f)
				d := newDisk(t, f.Page, c.Most)
				m := newModel(f)
				seen := map[string]int{}
				root := emptySum(f)
				for range 80 {
					root = mishap(t, r, d, c, m, root, seen)
				}
				if seen["went well"] == 0 || seen["old"] == 0 || seen["new"] == 0 {
					t.Error(seen)
				}
			})
		}
	}
}

// mishap opens the disk, works, and commits once; any of it may fail. It answers the root that is committed then.
func mishap(t *testing.T, r *rand.Rand, d *disk.Disk, c api.Config, m *model, root api.Digest, seen map[string]int) api.Digest {
	t.Helper()
	s := openedAtLast(t, r, d, c)
	due := version{m.version, root, pairsOf(m.committed)}
	if v := told(t, s); !v.is(due) {
		t.Fatalf("%v, and not %v", v, due)
	}
	m.worked = maps.Clone(m.committed)
	for range r.Intn(12) {
		o := api.Op{Kind: []api.OpKind{api.OpPut, api.OpPut, api.OpDelete}[r.Intn(3)], Key: key(c.Frame, r.Intn(50)), Val: strings.Repeat("v", r.Intn(c.Page/8))}
		was := d.Armed()
		if a, b := s.Do(o), m.does(o); !same(a, b) || d.Armed() != was {
			t.Fatalf("%+v: %+v, and not %+v", o, a, b)
		}
	}
	someArms(t, r, d)
	e := s.Commit()
	if e == api.OK {
		m.does(api.Op{Kind: api.OpCommit})
		root, e = s.Root()
		well(t, e)
		seen["went well"]++
		return root
	}
	if e != api.ErrIO && e != api.ErrOff && e != api.ErrFull || s.State() != api.ErrState {
		t.Fatal(e, s.State())
	}
	s = openedAtLast(t, r, d, c)
	v, now := told(t, s), version{m.version + 1, api.Digest{}, pairsOf(m.worked)}
	if now.root = v.root; v.is(now) {
		m.does(api.Op{Kind: api.OpCommit})
		seen["new"]++
		return v.root
	}
	if !v.is(due) {
		t.Fatalf("%v, and neither %v nor version %d", v, due, m.version+1)
	}
	seen["old"]++
	return root
}
