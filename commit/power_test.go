package commit_test

import (
	"fmt"
	"maps"
	"math/rand"
	"slices"
	"testing"

	"heartwood/api"
	"heartwood/commit"
	"heartwood/growth"
)

// scene is a trial that has come to a commit, which is not done yet.
type scene struct {
	*trial
	x       *growth.Edit
	next    map[string]string // the pairs that it makes
	version uint64            // 0: the next one
}

// commits does what the scene has come to.
func (s *scene) commits() api.Errno {
	if s.version == 0 {
		return s.f.Commit(s.x)
	}
	return s.f.CommitAs(s.x, s.version)
}

// stage is a scene that is played over and over: what its commit is to do, and what stands then.
type stage struct {
	anew    func() *scene
	first   *scene
	acts    []act
	after   standing
	written []string // what the disk is to have when all of it went well
	owned   []uint32 // and the pages that are held
}

func staged(anew func() *scene) *stage {
	s := anew()
	version := s.version
	if version == 0 {
		version = s.meta.Version + 1
	}
	acts, after, e := s.due(s.x, s.next, version)
	if e != api.OK {
		s.t.Fatal(e)
	}
	s.whole()
	return &stage{anew: anew, first: s, acts: acts, after: after, written: done(s.c.Frame, s.image, acts), owned: append(s.owned(), s.heldPages()...)}
}

// again answers the scene anew. Where nothing is held, the disk opened again is all that it takes: a commit does not change what it commits.
func (g *stage) again() *scene {
	if len(g.first.held) > 0 {
		return g.anew()
	}
	y := *g.first.trial
	y.d, y.held = y.d.Fork(), map[uint64]*keeping{}
	y.f = opened(y.t, y.d, y.c)
	s := *g.first
	s.trial = &y
	return &s
}

// scenes are all kinds of commits, each made anew when it is asked for.
func scenes(t *testing.T, f api.Frame) map[string]func() *scene {
	at := func(y *trial, version uint64, alter func(x *growth.Edit, pairs map[string]string)) *scene {
		x, pairs := y.begin()
		alter(x, pairs)
		return &scene{trial: y, x: x, next: pairs, version: version}
	}
	puts := func(from, many int, by string) func(x *growth.Edit, pairs map[string]string) {
		return func(x *growth.Edit, pairs map[string]string) {
			for i := range many {
				put(t, x, pairs, longKey(f, from+i), longVal(f, by))
			}
		}
	}
	nothing := puts(0, 0, "")
	empties := func(x *growth.Edit, pairs map[string]string) {
		for _, k := range slices.Sorted(maps.Keys(pairs)) {
			remove(t, x, pairs, k)
		}
	}
	grown := func() *trial {
		y := quickTrial(t, wide(f))
		y.putAll(0, 25, "a")
		y.putAll(3, 2, "b")
		return y
	}
	return map[string]func() *scene{
		"the first":                    func() *scene { return at(quickTrial(t, wide(f)), 0, puts(0, 1, "a")) },
		"the first, of several levels": func() *scene { return at(quickTrial(t, wide(f)), 0, puts(0, 20, "a")) },
		"the first, of nothing":        func() *scene { return at(quickTrial(t, wide(f)), 0, nothing) },
		"one leaf of several levels":   func() *scene { return at(grown(), 0, puts(9, 1, "c")) },
		"many leaves":                  func() *scene { return at(grown(), 0, puts(5, 30, "c")) },
		"nothing changed":              func() *scene { return at(grown(), 0, nothing) },
		"emptied":                      func() *scene { return at(grown(), 0, empties) },
		"versions left out":            func() *scene { return at(grown(), 4711, puts(9, 1, "c")) },
		"the greatest version":         func() *scene { return at(grown(), newest, puts(9, 1, "c")) },
		"the second": func() *scene {
			y := quickTrial(t, wide(f))
			y.putAll(0, 1, "a")
			return at(y, 0, puts(0, 1, "b"))
		},
		"with versions that are held": func() *scene {
			y := grown()
			y.hold()
			y.putAll(12, 2, "c")
			y.putAll(20, 2, "d")
			y.hold()
			return at(y, 0, puts(2, 12, "e"))
		},
		"on a disk with pages beyond the count": func() *scene {
			y := grown()
			x, _ := y.begin()
			puts(100, 8, "z")(x, map[string]string{})
			armed(t, y.d, api.Arm{On: api.ActSync, Nth: 1})
			if e := y.f.Commit(x); e != api.ErrIO {
				t.Fatal(e)
			}
			y.f = opened(t, y.d, y.c)
			y.image = y.d.Image()
			return at(y, 0, puts(7, 1, "c"))
		},
	}
}

// eachScene runs a test for every scene in frames of all page sizes.
func eachScene(t *testing.T, test func(t *testing.T, g *stage)) {
	for _, f := range sizes() {
		for what := range scenes(t, f) {
			t.Run(fmt.Sprint(f, what), func(t *testing.T) {
				t.Parallel()
				test(t, staged(scenes(t, f)[what]))
			})
		}
	}
}

// refusal is what a disk answers where it refuses an act.
func refusal(a act) api.Errno {
	if a.kind == api.ActGrow {
		return api.ErrFull
	}
	return api.ErrIO
}

// nthOf tells the how manyth of its kind the act of a place is.
func nthOf(acts []act, at int) int {
	n := 0
	for _, a := range acts[:at+1] {
		if a.kind == acts[at].kind {
			n++
		}
	}
	return n
}

// gone holds a file whose commit failed against what is due: given up, telling what it told last, and nothing can be asked of it.
func (y *trial) gone() {
	y.t.Helper()
	x := leafChange(y.c.Frame, y.meta.Root, api.Pair{Key: "a"})
	_, pageCode := y.f.Page(2)
	_, editCode := y.f.Edit()
	_, treeCode := y.f.Tree(y.meta.Version)
	for _, e := range []api.Errno{y.f.State(), pageCode, editCode, treeCode, y.f.Commit(x)} {
		if e != api.ErrState {
			y.t.Fatalf("%v: given up: %v", y.c, e)
		}
	}
	if y.f.Meta() != y.meta || y.f.Config() != y.c {
		y.t.Fatalf("%v: given up: %+v", y.c, y.f.Meta())
	}
	y.told()
}

// comes opens the disk again, which is to be where it was, or at the new version; each page that it owns is to be as it was written.
func (s *scene) comes(g *stage, newer bool) {
	s.t.Helper()
	if newer {
		s.standing, s.image = g.after, g.written
	}
	s.f, s.held = opened(s.t, s.d, s.c), map[uint64]*keeping{}
	s.stands()
}

// stands holds the pages that are owned against what was written, and then all that the file tells.
func (y *trial) stands() {
	y.t.Helper()
	image := y.d.Image()
	for _, no := range y.owned() {
		if int(no) >= len(image) || image[no] != y.image[no] {
			y.t.Fatalf("%v: version %d: the page %d is not as it was written", y.c, y.meta.Version, no)
		}
	}
	y.image = image
	y.whole()
}

// goesOn sees to it that a later loss of power changes nothing, and that the file can be committed to.
func (s *scene) goesOn() {
	s.t.Helper()
	if s.d.Crash(255, 255, 255) != api.OK || s.f.State() != api.ErrOff || s.d.Wake() != api.OK || s.f.State() != api.ErrOff {
		s.t.Fatal("the power")
	}
	s.f = opened(s.t, s.d, s.c)
	s.stands()
	if s.meta.Version < newest {
		s.putAll(40, 2, "y")
		s.reopen()
	}
}

// Every act of a commit is refused in its turn: so it is seen which acts were done ahead of it, in which order, and with which bytes.
func TestEachActRefused(t *testing.T) {
	eachScene(t, func(t *testing.T, g *stage) {
		for at, a := range g.acts {
			s := g.again()
			was := s.d.Acts()
			arm := api.Arm{Nth: at + 1}
			if at%2 == 1 {
				arm = api.Arm{On: a.kind, Nth: nthOf(g.acts, at)}
			}
			armed(t, s.d, arm)
			if e := s.commits(); e != refusal(a) {
				t.Fatalf("act %d: %v", at, e)
			}
			ahead := g.acts[:at]
			if n := since(was, s.d.Acts()); n != tally(ahead) || !slices.Equal(s.d.Waits(), waiting(ahead)) {
				t.Fatalf("act %d: %+v, waiting %v; and not %+v, %v", at, n, s.d.Waits(), tally(ahead), waiting(ahead))
			}
			seen := seenPages(t, s.d)
			if !slices.Equal(seen, done(s.c.Frame, s.image, ahead)) || !slices.Equal(s.d.Image(), done(s.c.Frame, s.image, ahead[:synced(ahead)])) {
				t.Fatalf("act %d: what is seen, or what is durable", at)
			}
			for _, no := range g.owned {
				if seen[no] != s.image[no] {
					t.Fatalf("act %d: the page %d is written to", at, no)
				}
			}
			s.gone()
			s.comes(g, at == len(g.acts)-1) // then the record was seen, and the opening synced it
			s.goesOn()
		}
	})
}

// fatesFor are kinds of fates for so many things that wait.
func fatesFor(r *rand.Rand, things int) [][]api.Fate {
	all := slices.Repeat([]api.Fate{255}, things)
	l := [][]api.Fate{nil, all}
	for i := range things {
		alone, others := make([]api.Fate, things), slices.Clone(all)
		alone[i], others[i] = 255, 0
		l = append(l, alone, others)
	}
	for range 3 {
		some := make([]api.Fate, things)
		for i := range some {
			some[i] = api.Fate(r.Intn(256))
		}
		l = append(l, some)
	}
	for s := range 8 {
		if things == 1 {
			l = append(l, []api.Fate{1 << s}, []api.Fate{255 &^ (1 << s), 255, 255})
		}
	}
	return l
}

// has tells whether the record of a commit has come, if it waits alone, with these fates.
func has(fates []api.Fate) bool { return len(fates) > 0 && fates[0]&1 == 1 }

// The power goes at every act of a commit, with every kind of fates.
func TestEachActLost(t *testing.T) {
	eachScene(t, func(t *testing.T, g *stage) {
		r := rand.New(rand.NewSource(4))
		record := len(g.acts) - 2
		for at, a := range g.acts {
			things := len(waiting(g.acts[:at]))
			if a.kind != api.ActSync {
				things++
			}
			for i, fates := range fatesFor(r, things) {
				if i > 3 && at < record && r.Intn(things+1) > 1 {
					continue
				}
				s := g.again()
				armed(t, s.d, api.Arm{Nth: at + 1, Power: true, Fates: fates})
				if e := s.commits(); e != api.ErrOff || s.d.On() {
					t.Fatalf("act %d, fates %v: %v", at, fates, e)
				}
				s.lost(g, at >= record && has(fates), i == 2)
			}
		}
	})
}

// lost is behind a loss of power in a commit, or behind one that was refused: the disk is opened again, at the old version or at the new one, as it is due.
func (s *scene) lost(g *stage, newer, further bool) {
	s.t.Helper()
	s.gone()
	image := s.d.Image()
	for _, no := range g.owned {
		if image[no] != s.image[no] {
			s.t.Fatalf("the page %d of version %d is written to", no, s.meta.Version)
		}
	}
	if f, e := commit.Open(s.d, s.c); f != nil || e != api.ErrOff {
		s.t.Fatal("the power is off", e)
	}
	if s.d.Wake() != api.OK {
		s.t.Fatal("Wake")
	}
	s.gone() // it stays given up
	s.comes(g, newer)
	if further {
		s.goesOn()
	}
}

// The power goes behind a commit that went well: it is there, whatever the fates.
func TestLostBehindCommit(t *testing.T) {
	eachScene(t, func(t *testing.T, g *stage) {
		for _, fates := range [][]api.Fate{nil, {255}, {0, 1, 2}} {
			s := g.again()
			if e := s.commits(); e != api.OK || s.d.Crash(fates...) != api.OK || s.f.State() != api.ErrOff || s.f.Meta() != g.after.meta {
				t.Fatal(e, s.f.State(), s.f.Meta())
			}
			if s.d.Wake() != api.OK || s.f.State() != api.ErrOff || !slices.Equal(s.d.Image(), g.written) {
				t.Fatal("the power")
			}
			s.comes(g, true)
			s.goesOn()
		}
	})
}

// The power goes behind a refusal: what was not synced yet waits, and may be lost or come.
func TestLostBehindRefusal(t *testing.T) {
	eachScene(t, func(t *testing.T, g *stage) {
		r := rand.New(rand.NewSource(6))
		last := len(g.acts) - 1
		for at, a := range g.acts {
			for i, fates := range fatesFor(r, len(waiting(g.acts[:at]))) {
				if at < last && i > 2 {
					break
				}
				s := g.again()
				armed(t, s.d, api.Arm{Nth: at + 1})
				if e := s.commits(); e != refusal(a) {
					t.Fatalf("act %d: %v", at, e)
				}
				s.gone()
				s.opensInVain(i%2 == 0, fates)
				s.lost(g, at == last && has(fates), false)
			}
		}
	})
}

// opensInVain has an opening refused; then the power goes, by itself or in the midst of an opening.
func (s *scene) opensInVain(byItself bool, fates []api.Fate) {
	s.t.Helper()
	armed(s.t, s.d, api.Arm{On: api.ActSync, Nth: 1})
	if f, e := commit.Open(s.d, s.c); f != nil || e != api.ErrIO {
		s.t.Fatal(e)
	}
	if byItself {
		s.d.Crash(fates...)
		return
	}
	armed(s.t, s.d, api.Arm{On: api.ActSync, Nth: 1, Power: true, Fates: fates})
	if f, e := commit.Open(s.d, s.c); f != nil || e != api.ErrOff {
		s.t.Fatal(e)
	}
}

// someArms puts arms by chance, if the power is on and there are few.
func (y *trial) someArms(r *rand.Rand) {
	y.t.Helper()
	for range r.Intn(3) {
		a := api.Arm{On: api.Act(r.Intn(4)), Nth: 1 + r.Intn(6), Power: r.Intn(2) == 0}
		for range r.Intn(12) {
			a.Fates = append(a.Fates, []api.Fate{0, 255, api.Fate(r.Intn(256))}[r.Intn(3)])
		}
		if y.d.On() && y.d.Armed() < 20 {
			armed(y.t, y.d, a)
		}
	}
}

// Refusals and losses of power, over and over, in commits and in openings: each opening that goes well is at the version of the last commit that went well, or at that of the one that was under way.
func TestOverAndOver(t *testing.T) {
	for i, f := range sizes() {
		for round := range 6 {
			t.Run(fmt.Sprint(f, round), func(t *testing.T) {
				t.Parallel()
				r := rand.New(rand.NewSource(int64(1000*i + round)))
				y := quickTrial(t, wide(f))
				seen := map[string]int{}
				for range 80 {
					y.mishap(r, seen)
				}
				if seen["went well"] == 0 || seen["old"] == 0 || seen["new"] == 0 {
					t.Error(seen)
				}
			})
		}
	}
}

// mishap makes one commit, which may fail, and then opens the disk till that goes well.
func (y *trial) mishap(r *rand.Rand, seen map[string]int) {
	y.t.Helper()
	x, pairs := y.begin()
	stir(y.t, r, y.c.Frame, x, pairs, r.Intn(8), 6)
	acts, after, e := y.due(x, pairs, y.meta.Version+1)
	if e != api.OK {
		y.t.Fatal(e)
	}
	written := done(y.c.Frame, y.image, acts)
	y.someArms(r)
	well := y.f.Commit(x) == api.OK
	if well {
		y.standing, y.image = after, written
		y.asked()
	} else {
		y.gone()
	}
	y.openAtLast(r)
	switch m := y.f.Meta(); {
	case well && m == y.meta:
		seen["went well"]++
	case m == y.meta:
		seen["old"]++
	case m == after.meta:
		seen["new"]++
		y.standing, y.image = after, written
	default:
		y.t.Fatalf("%v: %+v, and neither %+v nor %+v", y.c, m, y.meta, after.meta)
	}
	y.stands()
}

// openAtLast opens the disk, which refuses and loses its power in the midst of it, till that goes well.
func (y *trial) openAtLast(r *rand.Rand) {
	y.t.Helper()
	for {
		y.someArms(r)
		if r.Intn(5) == 0 {
			y.d.Crash(api.Fate(r.Intn(256)), api.Fate(r.Intn(256)))
		}
		if !y.d.On() {
			y.d.Wake()
		}
		f, e := commit.Open(y.d, y.c)
		if e == api.OK {
			y.f = f
			return
		}
		if f != nil || e != api.ErrIO && e != api.ErrOff {
			y.t.Fatal(e)
		}
	}
}
