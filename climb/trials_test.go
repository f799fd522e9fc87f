package climb_test

import (
	"iter"
	"math/rand"
	"slices"
	"testing"

	"heartwood/api"
	"heartwood/climb"
	"heartwood/trunk"
)

// trial is a tree whose calls are held against the rule, one by one: what is answered, what is got, and whether the source is what it was.
type trial struct {
	t    *testing.T
	x    *trunk.Tree
	s    *well
	due  *rule
	kept func() bool
	seen map[api.Errno]int // how many calls were answered by each error
}

func newTrial(t *testing.T, f api.Frame, s *well, root api.Root) *trial {
	t.Helper()
	return &trial{t: t, x: tree(t, f, s, root), s: s, due: newRule(t, f, s, root), kept: s.kept(), seen: map[api.Errno]int{}}
}

func trialOf(t *testing.T, f api.Frame, w *twig) *trial {
	t.Helper()
	s, root := laid(f, w)
	return newTrial(t, f, s, root)
}

// scribble writes over a list, the room behind it included.
func scribble[T any](l []T) { clear(l[:cap(l)]) }

// over goes over Up or Down, leaves it behind so many that are told (0: not at all), and answers what is got and told.
func (y *trial) over(seq iter.Seq2[api.Pair, api.Errno], leave int) []string {
	y.s.log = nil
	for p, e := range seq {
		y.s.log = append(y.s.log, told(p, e))
		if leave--; leave == 0 {
			break
		}
	}
	return y.s.log
}

// some are numbers from 1 to many: all, if they are few.
func some(r *rand.Rand, many int) []int {
	var l []int
	if many > 9 {
		return []int{1, 2, 2 + r.Intn(many-2), 2 + r.Intn(many-2), many - 1, many}
	}
	for i := range many {
		l = append(l, i+1)
	}
	return l
}

// span makes all calls that have a range.
func (y *trial) span(r *rand.Rand, lo, hi string) {
	y.t.Helper()
	for _, falling := range []bool{true, false} {
		seq := climb.Up(y.x, lo, hi)
		if falling {
			seq = climb.Down(y.x, lo, hi)
		}
		want := y.due.through(falling, lo, hi)
		// The last time it is gone over anew, behind all that left it.
		for _, leave := range append(some(r, want.told()), 0) {
			if log, due := y.over(seq, leave), want.left(leave); !slices.Equal(log, due) {
				y.t.Fatalf("%.70q to %.70q, falling %v, left behind %d: %.70q, and not %.70q", lo, hi, falling, leave, log, due)
			}
		}
	}
	want := y.due.through(false, lo, hi)
	y.seen[want.end]++
	y.count(want, lo, hi)
	for _, limit := range append(some(r, len(want.pairs)), 0, 1, len(want.pairs), len(want.pairs)+1, 1<<63-1) {
		y.list(want, lo, hi, limit)
	}
	if !y.kept() {
		y.t.Fatalf("%.70q to %.70q: what the source keeps was changed", lo, hi)
	}
}

// count holds Count against the course through its range.
func (y *trial) count(want course, lo, hi string) {
	y.t.Helper()
	many := len(want.pairs)
	if want.end != api.OK {
		many = 0
	}
	y.s.log = nil
	if n, e := climb.Count(y.x, lo, hi); n != many || e != want.end || !slices.Equal(y.s.log, gotsOf(want.log)) {
		y.t.Fatalf("Count(%.70q, %.70q): %d %v and %v, and not %d %v", lo, hi, n, e, y.s.log, many, want.end)
	}
}

// list holds List against the course through its range.
func (y *trial) list(want course, lo, hi string, limit int) {
	y.t.Helper()
	pairs, due, gots := want.pairs, want.end, gotsOf(want.log)
	if limit > 0 && limit <= len(pairs) {
		// Whether there is one more, or an error, is not asked.
		pairs, due, gots = pairs[:limit], api.OK, gotsOf(want.left(limit))
	}
	if due != api.OK {
		pairs = nil
	}
	y.s.log = nil
	l, e := climb.List(y.x, lo, hi, limit)
	if !slices.Equal(l, pairs) || e != due || !slices.Equal(y.s.log, gots) {
		y.t.Fatalf("List(%.70q, %.70q, %d): %.70q %v and %v, and not %.70q %v", lo, hi, limit, l, e, y.s.log, pairs, due)
	}
	scribble(l)
}

// ride is a cursor that is held against the rule, call by call.
type ride struct {
	*trial
	c   *climb.Cursor
	due *stand
}

func (y *trial) ride() *ride {
	y.t.Helper()
	c, e := climb.New(y.x)
	if c == nil || e != api.OK {
		y.t.Fatalf("New: %v", e)
	}
	v := &ride{trial: y, c: c, due: &stand{rule: y.due}}
	v.look("New", "")
	return v
}

// call makes a call of a cursor by its name.
func call(c *climb.Cursor, name, key string) api.Errno {
	switch name {
	case "Next":
		return c.Next()
	case "Back":
		return c.Back()
	case "First":
		return c.First()
	case "Last":
		return c.Last()
	}
	return c.Seek(key)
}

// do makes a call, and looks where the cursor stands behind it.
func (v *ride) do(name, key string) api.Errno {
	v.t.Helper()
	v.s.log = nil
	e := call(v.c, name, key)
	due := v.due.do(name, key)
	if e != due || !slices.Equal(v.s.log, v.due.log) {
		v.t.Fatalf("%s(%.70q): %v and %v, and not %v and %v", name, key, e, v.s.log, due, v.due.log)
	}
	v.seen[e]++
	v.look(name, key)
	return e
}

// look holds where the cursor stands against the rule, twice, with what it answers written over: nothing is got for it.
func (v *ride) look(name, key string) {
	v.t.Helper()
	v.s.log = nil
	want, due := v.due.pair()
	for range 2 {
		p, is := v.c.Pair()
		at := v.c.Place()
		if p != want || is != due || !slices.Equal(at, v.due.at) || v.s.log != nil {
			v.t.Fatalf("behind %s(%.70q): %.70q %v at %v, and not %.70q at %v", name, key, p, is, at, want, v.due.at)
		}
		scribble(at)
	}
	if !v.kept() {
		v.t.Fatalf("behind %s(%.70q): what the source keeps was changed", name, key)
	}
}

// wander makes so many calls by chance, most of them such as go on.
func (v *ride) wander(r *rand.Rand, keys []string, many int) {
	v.t.Helper()
	name := "Seek"
	for range many {
		if _, is := v.c.Pair(); r.Intn(6) == 0 || !is {
			name = []string{"Seek", "Seek", "First", "Last", "Next", "Back"}[r.Intn(6)]
		} else if r.Intn(4) == 0 || name != "Back" && name != "Next" {
			name = []string{"Next", "Back"}[r.Intn(2)]
		}
		v.do(name, keys[r.Intn(len(keys))])
	}
}
