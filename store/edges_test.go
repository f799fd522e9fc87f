package store_test

import (
	"fmt"
	"maps"
	"math"
	"slices"
	"strings"
	"testing"

	"heartwood/api"
	"heartwood/trunk"
)

// Keys of one byte, of as many as may be, of one more and of none; values of none, of as many as may be and of one more.
func TestLongKeysAndValues(t *testing.T) {
	for _, f := range frames() {
		y := newTrial(t, wide(f))
		longest, long := strings.Repeat("\xff", f.Page/16), strings.Repeat("\x00", f.Page/8)
		for _, k := range []string{"a", "\x00", "\xff", longest, longest[1:], strings.Repeat("\x00", f.Page/16), ""} {
			for _, v := range []string{"", "x", long, long[1:], long + "\x00", strings.Repeat("x", 3*f.Page)} {
				y.put(k, v)
				y.get(k)
			}
		}
		y.whole()
		y.commit()
		y.whole()
		for _, k := range []string{"", longest + "\xff", strings.Repeat("k", f.Page/16+1), strings.Repeat("k", 5*f.Page)} {
			y.put(k, "")
			y.put(k, long+"x")
			y.get(k)
			y.remove(k)
		}
		y.whole()
		for _, k := range []string{longest, "\x00", "a", "a"} {
			y.remove(k)
		}
		y.whole()
		if n := len(y.worked); n != 3 {
			t.Errorf("%v: %d pairs", f, n)
		}
	}
}

// A value of as many bytes as may be is one byte too long in the next smaller frame, and so is a key: it is the store's own frame that counts.
func TestOwnFrame(t *testing.T) {
	for _, f := range frames() {
		s := opened(t, newDisk(t, f.Page, 64), api.Config{Frame: f, Most: 64})
		for _, size := range []int{1024, 2048, 4096, 8192} {
			due := api.OK
			if size > f.Page {
				due = api.ErrArg
			}
			k, v := strings.Repeat("k", size/16), strings.Repeat("v", size/8)
			_, _, get := s.Get(k)
			_, del := s.Delete(k)
			for i, e := range []api.Errno{s.Put(k, ""), s.Put("a", v), get, del} {
				if e != due {
					t.Errorf("%v: a page of %d, call %d: %v", f, size, i, e)
				}
			}
		}
	}
}

// changed is how many nodes of what is worked on are on no page: their numbers tell it.
func changed(t *testing.T, tree *trunk.Tree) int {
	t.Helper()
	numbers, e := tree.Pages()
	well(t, e)
	n := 0
	for _, no := range numbers {
		if no >= api.Dirty {
			n++
		}
	}
	return n
}

// A put of the value that is there, and a delete of what is not there, change nothing: nothing is dirty then.
func TestNothingIsChanged(t *testing.T) {
	for _, f := range sizes() {
		y := newTrial(t, wide(f))
		for i := range 40 {
			y.put(longKey(f, i), longVal(f, "a"))
		}
		y.commit()
		for i := range 40 {
			y.put(longKey(f, i), longVal(f, "a"))
			y.remove(longKey(f, i+40))
			y.remove(longKey(f, i)[1:])
		}
		tree, _ := y.s.Working()
		if changed(t, tree) > 0 || tree.Root() != y.s.Meta().Root {
			t.Errorf("%v: %d nodes are dirty", f, changed(t, tree))
		}
		y.whole()
		y.put(longKey(f, 7), "b")
		y.put(longKey(f, 7), "b")
		tree, _ = y.s.Working()
		if changed(t, tree) == 0 || tree.Root().Sum == y.s.Meta().Root.Sum && f.Width == 32 {
			t.Errorf("%v: a put of another value leaves all as it is", f)
		}
		y.whole()
	}
}

// A commit that changes nothing is a version more all the same, of the empty tree as of another one; its root and its pages stay.
func TestCommitOfNothing(t *testing.T) {
	t.Parallel()
	for _, f := range sizes() {
		y := newTrial(t, wide(f))
		for round := range 3 {
			root, tree := y.s.Meta().Root, y.d.Size()
			for range 3 {
				was, no := y.d.Acts(), y.version
				y.commit()
				v, e := y.s.Version()
				well(t, e)
				n := since(was, y.d.Acts())
				if v != no+1 || y.s.Meta().Root != root || n.Writes != 1 || n.Syncs != 2 || y.d.Size() != max(tree, 2) {
					t.Errorf("%v: round %d: version %d, %+v", f, round, v, n)
				}
				y.whole()
			}
			y.reopen()
			for i := range 20 {
				y.put(longKey(f, 10*round+i), longVal(f, "a"))
			}
			y.commit()
			y.whole()
		}
	}
}

// What was put and is taken out again leaves what was: the version's pairs are the same.
func TestThereAndBack(t *testing.T) {
	for _, f := range frames() {
		y := newTrial(t, wide(f))
		for i := range 20 {
			y.put(longKey(f, 2*i), longVal(f, "a"))
		}
		y.commit()
		was := maps.Clone(y.committed)
		for i := range 20 {
			y.put(longKey(f, 2*i+1), longVal(f, "b"))
		}
		for i := range 20 {
			y.remove(longKey(f, 2*i+1))
		}
		y.whole()
		y.commit()
		y.whole()
		if !maps.Equal(y.committed, was) {
			t.Errorf("%v: other pairs", f)
		}
		for k := range was {
			y.remove(k)
		}
		y.whole()
		y.commit()
		y.whole()
		if root, _ := y.s.Root(); root != emptySum(f) {
			t.Errorf("%v: the root of the empty tree: %x", f, root)
		}
	}
}

// Limits of nought, of one, of as many as there are, of one more, below nought; of nothing, of a few pairs and of many.
func TestLimits(t *testing.T) {
	for _, f := range sizes() {
		for _, many := range []int{0, 1, 2, 50} {
			y := newTrial(t, wide(f))
			for i := range many {
				y.put(longKey(f, i), longVal(f, "a"))
			}
			for range 2 {
				for _, limit := range []int{0, 1, 2, many - 1, many, many + 1, math.MaxInt, -1, -2, math.MinInt} {
					y.ask(api.Op{Kind: api.OpScan, Limit: limit})
					y.ask(api.Op{Kind: api.OpScan, Key: "b", Limit: limit})
					y.ask(api.Op{Kind: api.OpScan, Key: longKey(f, 1), Val: longKey(f, 30), Limit: limit})
					l, e := y.s.Scan("", "", limit)
					if limit < 0 && (e != api.ErrArg || len(l) > 0) {
						t.Errorf("%v: a limit of %d: %d pairs, %v", f, limit, len(l), e)
					}
					due := many
					if limit > 0 {
						due = min(limit, many)
					}
					if limit >= 0 && (e != api.OK || len(l) != due) {
						t.Errorf("%v: a limit of %d: %d pairs of %d, %v", f, limit, len(l), many, e)
					}
				}
				y.commit()
			}
		}
	}
}

// Ranges: all, those with one end, empty ones, turned round ones, ends that can be no keys, ends that are keys and ends that are not.
func TestRanges(t *testing.T) {
	for _, f := range sizes() {
		y := newTrial(t, wide(f))
		for i := range 30 {
			y.put(longKey(f, 10*i), longVal(f, "a"))
		}
		ends := []string{"", "\x00", "0", longKey(f, 0), longKey(f, 10), longKey(f, 10)[:5], longKey(f, 15), longKey(f, 10) + "k", longKey(f, 290), longKey(f, 299), "9", strings.Repeat("\xff", 3*f.Page)}
		for range 2 {
			for _, lo := range ends {
				for _, hi := range ends {
					for _, limit := range []int{0, 2} {
						y.ask(api.Op{Kind: api.OpScan, Key: lo, Val: hi, Limit: limit})
					}
				}
			}
			y.commit()
		}
		for _, ends := range [][2]string{{"b", "a"}, {"00100", "00100"}, {"00100", "000"}, {"9", ""}} {
			if l, e := y.s.Scan(ends[0], ends[1], 0); len(l) > 0 || e != api.OK {
				t.Errorf("%v: %q: %d pairs, %v", f, ends, len(l), e)
			}
		}
	}
}

// Keys of any bytes stand byte by byte.
func TestBytes(t *testing.T) {
	t.Parallel()
	for _, f := range sizes() {
		y := newTrial(t, wide(f))
		for i := range 256 {
			y.put(string([]byte{byte(i)}), fmt.Sprint(i))
			y.put(string([]byte{byte(i), 0}), "")
			y.put(string([]byte{255, byte(255 - i)}), "\x00")
		}
		y.commit()
		y.whole()
		l, e := y.s.Scan("", "", 0)
		well(t, e)
		if len(l) != 767 || !slices.IsSortedFunc(l, func(a, b api.Pair) int { return strings.Compare(a.Key, b.Key) }) {
			t.Errorf("%v: %d pairs", f, len(l))
		}
	}
}
