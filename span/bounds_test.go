package span_test

import (
	"fmt"
	"math/rand"
	"testing"

	"heartwood/api"
	"heartwood/pack"
)

// isTaken reads the list of a twig, whose digests are right, and complains if it is not taken as it should be.
func isTaken(t *testing.T, what string, f api.Frame, r keyRange, good bool, w *twig) {
	t.Helper()
	root, forms := linked(t, f, w)
	if holds(t, what, f, root, r, pack.Join(forms...)) != good {
		t.Errorf("%v: %s: %q: a proof, and it should be: %t", f, what, r, good)
	}
}

// one is the range of one key.
func one(key string) keyRange { return keyRange{key, key + "\x00"} }

// Lists made by hand whose digests are right: each node is one that stands in the one ahead, and what may be wrong is where it stands.
func TestBoundsOfOneWay(t *testing.T) {
	for _, f := range frames() {
		b := func(seps ...string) api.Node { return branch(f, seps...) }
		at := func(n api.Node, i int, kid *twig) *twig { return with(n, i, kid) }
		l := func(pairs ...string) *twig { return alone(leaf(pairs...)) }
		for _, c := range []struct {
			what string
			key  string
			good bool
			w    *twig
		}{
			{"a leaf between two separators", "e", true, at(b("d", "g"), 1, l("d=1", "e=2", "f\xff=3"))},
			{"a key below the lower bound", "e", false, at(b("d", "g"), 1, l("c\xff=1", "e=2"))},
			{"a key at the lower bound", "e", true, at(b("d", "g"), 1, l("d=1"))},
			{"a key at the upper bound", "e", false, at(b("d", "g"), 1, l("e=2", "g=3"))},
			{"a key above the upper bound", "e", false, at(b("d", "g"), 1, l("e=2", "h=3"))},
			{"all keys below the lower bound", "e", false, at(b("d", "g"), 1, l("a=2", "b=3"))},
			{"all keys above the upper bound", "e", false, at(b("d", "g"), 1, l("x=2", "y=3"))},
			{"the first kid has no lower bound", "a", true, at(b("d", "g"), 0, l("\x00=1", "c=2"))},
			{"the first kid with a key at its upper bound", "a", false, at(b("d", "g"), 0, l("\x00=1", "d=2"))},
			{"the last kid has no upper bound", "x", true, at(b("d", "g"), 2, l("g=1", "\xff\xff=2"))},
			{"the last kid with a key below its lower bound", "x", false, at(b("d", "g"), 2, l("f\xff=1", "x=2"))},
			{"the key is the separator, and goes behind it", "d", true, at(b("d", "g"), 1, l("d=1"))},
			{"the key is the separator, and goes ahead of it", "d", false, at(b("d", "g"), 0, l("c=1"))},

			{"a branch between two separators", "e", true, at(b("d", "k"), 1, at(b("d\x00", "j\xff"), 1, l("d\x00=1", "e=2")))},
			{"a separator below the lower bound", "e", false, at(b("d", "k"), 1, at(b("c", "j"), 1, l("e=2")))},
			{"a separator at the lower bound", "e", false, at(b("d", "k"), 1, at(b("d", "j"), 1, l("e=2")))},
			{"a separator at the upper bound", "e", false, at(b("d", "k"), 1, at(b("f", "k"), 0, l("e=2")))},
			{"a separator above the upper bound", "e", false, at(b("d", "k"), 1, at(b("f", "l"), 0, l("e=2")))},
			{"a separator that is out, at a way that does not come by it", "e", false, at(b("d", "k"), 1, at(b("f", "h", "k"), 0, l("e=2")))},
			{"the first kid's separators have no lower bound", "b", true, at(b("d", "k"), 0, at(b("\x00", "c"), 1, l("a=2")))},
			{"the last kid's separators have no upper bound", "x", true, at(b("d", "k"), 2, at(b("l", "\xff"), 1, l("l=2")))},

			{"a key below a lower bound that is two levels up", "e", false, at(b("d", "k"), 1, at(b("f", "h"), 0, l("c=1", "e=2")))},
			{"a key at a lower bound that is two levels up", "e", true, at(b("d", "k"), 1, at(b("f", "h"), 0, l("d=1", "e=2")))},
			{"a key at an upper bound that is two levels up", "j", false, at(b("d", "k"), 1, at(b("f", "h"), 2, l("j=1", "k=2")))},
			{"a key just below an upper bound that is two levels up", "j", true, at(b("d", "k"), 1, at(b("f", "h"), 2, l("h=1", "j\xff=2")))},
			{"a key at an upper bound that is three levels up", "j", false, at(b("k"), 0, at(b("f"), 1, at(b("g", "h"), 2, l("j=1", "k=2"))))},
			{"a separator at a lower bound that is two levels up", "e", false, at(b("d", "k"), 1, at(b("f", "h"), 0, at(b("d", "e\x00"), 1, l("e=2"))))},
			{"a separator at an upper bound that is two levels up", "j", false, at(b("d", "k"), 1, at(b("f", "h"), 2, at(b("i", "k"), 1, l("j=2"))))},
			{"an inner separator in the place of one further out", "g", false, at(b("d", "k"), 1, at(b("f", "h"), 1, l("e=1", "g=2")))},

			{"an empty leaf alone", "e", true, l()},
			{"an empty leaf under a branch", "e", false, at(b("d", "g"), 1, l())},
			{"an empty leaf under a branch, at its end", "x", false, at(b("d", "g"), 2, l())},
			{"an empty leaf under two branches", "e", false, at(b("d", "k"), 1, at(b("g"), 0, l()))},
		} {
			isTaken(t, c.what, f, one(c.key), c.good, c.w)
		}
	}
}

// Lists of several kids, each of which is held against its own bounds.
func TestBoundsOfSeveralKids(t *testing.T) {
	all := keyRange{"", ""}
	for _, f := range frames() {
		b := func(seps ...string) api.Node { return branch(f, seps...) }
		l := func(pairs ...string) *twig { return alone(leaf(pairs...)) }
		for _, c := range []struct {
			what string
			r    keyRange
			good bool
			w    *twig
		}{
			{"three leaves", all, true, with(b("d", "g"), 0, l("a=1", "c=2"), l("d=3"), l("g=4"))},
			{"thin nodes and thick ones", all, true, with(b("d"), 0, l("a=1"), l("d=3", "e=4", "f=5", "g=6", "h=7", "i=8"))},
			{"the first one's key is the second one's", all, false, with(b("d", "g"), 0, l("a=1", "d=2"), l("d=3"), l("g=4"))},
			{"the second one's key is the first one's", all, false, with(b("d", "g"), 0, l("a=1"), l("c=2", "d=3"), l("g=4"))},
			{"the second one's key is the third one's", all, false, with(b("d", "g"), 0, l("a=1"), l("d=3", "g=3"), l("g=4"))},
			{"the third one's key is the second one's", all, false, with(b("d", "g"), 0, l("a=1"), l("d=3"), l("f=4"))},
			{"two leaves exchanged", all, false, with(b("d", "g"), 0, l("d=1"), l("a=3"), l("g=4"))},
			{"one leaf twice", all, false, with(b("d", "g"), 0, l("a=1"), l("a=1"), l("g=4"))},
			{"an empty leaf among them", all, false, with(b("d", "g"), 0, l("a=1"), l(), l("g=4"))},
			{"an empty leaf, the first one", all, false, with(b("d", "g"), 0, l(), l("d=3"), l("g=4"))},
			{"an empty leaf, the last one", all, false, with(b("d", "g"), 0, l("a=1"), l("d=3"), l())},
			{"leaves that are not equally deep", all, true, with(b("d", "g"), 0, l("a=1"), with(b("e"), 0, l("d=2"), l("e=3")), l("g=4"))},
			{"a branch behind which a leaf is out of its bounds", all, false, with(b("d", "g"), 0, l("a=1"), with(b("e"), 0, l("d=2"), l("e=3")), l("e=4"))},
			{"bounds of a second branch are not those of the first", all, true, with(b("m"), 0, with(b("d"), 0, l("a=1"), l("l=2")), with(b("x"), 0, l("m=3"), l("z=4")))},
			{"a second branch's separator at the root's", all, false, with(b("m"), 0, with(b("d"), 0, l("a=1"), l("l=2")), with(b("m"), 0, l("m=3"), l("z=4")))},
			{"a first branch's separator at the root's", all, false, with(b("m"), 0, with(b("m"), 0, l("a=1"), l("l=2")), with(b("x"), 0, l("m=3"), l("z=4")))},
			{"a leaf of the second branch below the root's separator", all, false, with(b("m"), 0, with(b("d"), 0, l("a=1"), l("l=2")), with(b("x"), 0, l("l=3"), l("z=4")))},
			{"a leaf of the first branch at the root's separator", all, false, with(b("m"), 0, with(b("d"), 0, l("a=1"), l("m=2")), with(b("x"), 0, l("n=3"), l("z=4")))},

			// Which kids may have of a range: just these are wanted.
			{"up to a separator: not the kid behind it", keyRange{"", "g"}, true, with(b("d", "g"), 0, l("a=1"), l("d=3"))},
			{"up to a separator, and the kid behind it", keyRange{"", "g"}, false, with(b("d", "g"), 0, l("a=1"), l("d=3"), l("g=4"))},
			{"up to just above a separator: the kid behind it", keyRange{"", "g\x00"}, true, with(b("d", "g"), 0, l("a=1"), l("d=3"), l("g=4"))},
			{"up to just above a separator, without the kid behind it", keyRange{"", "g\x00"}, false, with(b("d", "g"), 0, l("a=1"), l("d=3"))},
			{"up to just below a separator", keyRange{"", "f\xff"}, true, with(b("d", "g"), 0, l("a=1"), l("d=3"))},
			{"from a separator: not the kid ahead of it", keyRange{"d", ""}, true, with(b("d", "g"), 1, l("d=3"), l("g=4"))},
			{"from a separator, and the kid ahead of it", keyRange{"d", ""}, false, with(b("d", "g"), 0, l("a=1"), l("d=3"), l("g=4"))},
			{"from just below a separator: the kid ahead of it", keyRange{"c\xff", ""}, true, with(b("d", "g"), 0, l("a=1"), l("d=3"), l("g=4"))},
			{"from just below a separator, without the kid ahead of it", keyRange{"c\xff", ""}, false, with(b("d", "g"), 1, l("d=3"), l("g=4"))},
			{"from just above a separator", keyRange{"d\x00", ""}, true, with(b("d", "g"), 1, l("d=3"), l("g=4"))},
			{"the last kid, whatever lo is", keyRange{"\xff\xff\xff", ""}, true, with(b("d", "g"), 2, l("g=4"))},
			{"the first kid, whatever hi is", keyRange{"", "\x00"}, true, with(b("d", "g"), 0, l("a=4"))},
			{"from a separator up to itself: no kid", keyRange{"d", "d"}, true, alone(b("d", "g"))},
			{"from a separator up to itself, and the kid behind it", keyRange{"d", "d"}, false, with(b("d", "g"), 1, l("d=3"))},
			{"from above to below: no kid", keyRange{"x", "a"}, true, alone(b("d", "g"))},
			{"from above to below in one kid", keyRange{"f", "e"}, true, with(b("d", "g"), 1, l("e=3", "f=1"))},
			{"from above to below in one kid, without it", keyRange{"f", "e"}, false, alone(b("d", "g"))},
			{"a kid that is wanted by the root, and none of its own", keyRange{"e", "e"}, true, with(b("d", "g"), 1, alone(b("e", "f")))},
			{"kids of two branches, at the end of one and the beginning of the other", keyRange{"l", "n"}, true, with(b("m"), 0, with(b("d"), 1, l("l=2")), with(b("x"), 0, l("m=3")))},
			{"all kids of an inner branch", keyRange{"c", "x"}, true, with(b("d", "m"), 0, l("c=1"), with(b("f", "h"), 0, l("d=1"), l("f=2"), l("k=3")), l("n=1"))},
			{"all kids of an inner branch but one", keyRange{"c", "x"}, false, with(b("d", "m"), 0, l("c=1"), with(b("f", "h"), 0, l("d=1"), l("f=2")), l("n=1"))},
		} {
			isTaken(t, c.what, f, c.r, c.good, c.w)
		}
	}
}

// chain is so many nodes, one below the other, around m.
func chain(f api.Frame, levels int) *twig {
	w := alone(leaf("m=1"))
	for i := levels - 2; i >= 0; i-- {
		if i%2 == 0 {
			w = with(branch(f, fmt.Sprintf("b%02d", i)), 1, w)
		} else {
			w = with(branch(f, fmt.Sprintf("b%02d", i), fmt.Sprintf("y%02d", 60-i)), 1, w)
		}
	}
	return w
}

// Ways of as many nodes as may be, and of more.
func TestLongWays(t *testing.T) {
	for _, f := range frames() {
		for _, levels := range []int{1, 2, 3, 31, 32, 33, 34, 35, 40} {
			isTaken(t, fmt.Sprint("a chain of ", levels), f, one("m"), levels <= mostLevels, chain(f, levels))
			isTaken(t, fmt.Sprint("a chain of ", levels), f, keyRange{"c", "d"}, levels <= mostLevels, chain(f, levels))
		}
		// All kids of each are wanted.
		for _, levels := range []int{2, 31, 32, 33, 34, 35} {
			isTaken(t, fmt.Sprint("a comb of ", levels), f, keyRange{"", ""}, levels <= mostLevels, comb(f, levels, 0))
			isTaken(t, fmt.Sprint("a comb of ", levels, ", but for its end"), f, keyRange{"", fmt.Sprintf("b%02d", levels-2)}, levels <= mostLevels, cut(comb(f, levels, 0)))
		}
	}
}

// comb is so many levels, at each of them a leaf and what is further down.
func comb(f api.Frame, levels, at int) *twig {
	if levels == 1 {
		return alone(leaf("z=1"))
	}
	return with(branch(f, fmt.Sprintf("b%02d", at)), 0, alone(leaf(fmt.Sprintf("b%02da=1", at-1))), comb(f, levels-1, at+1))
}

// cut is a comb without its last leaf.
func cut(w *twig) *twig {
	if len(w.under[1].under) == 0 {
		return with(w.n, 0, w.under[0])
	}
	return with(w.n, 0, w.under[0], cut(w.under[1]))
}

// Lists by chance of small keys and separators, held against the chapter's words; some are proofs, and some keep no bounds.
func TestListsByChance(t *testing.T) {
	t.Parallel()
	f := api.Frame{Page: 1024, Width: 32}
	r := rand.New(rand.NewSource(164))
	var took, left [6]int
	for range 30000 {
		texts := rising(r, 2, 0, 40)
		k := keyRange{texts[0], texts[len(texts)-1]}
		if r.Intn(4) == 0 {
			k = keyRange{k.hi, k.lo}
		}
		if r.Intn(4) == 0 {
			k.hi = ""
		}
		levels := 1 + r.Intn(4)
		root, forms := linked(t, f, bush(r, f, k, levels, 0, 40))
		if holds(t, "a list by chance", f, root, k, pack.Join(forms...)) {
			took[levels]++
		} else {
			left[levels]++
		}
	}
	for levels := 1; levels <= 4; levels++ {
		if took[levels] < 100 || levels > 1 && left[levels] < 100 {
			t.Errorf("of lists of %d levels %d were taken, and %d were not", levels, took[levels], left[levels])
		}
	}
}

// bush is a twig by chance with the kids that a range wants, or nearly: what it is made of lies between two numbers, or now and then beside them.
func bush(r *rand.Rand, f api.Frame, k keyRange, levels, lo, hi int) *twig {
	if r.Intn(12) == 0 {
		lo, hi = max(lo-1, 0), hi+1
	}
	if levels == 1 {
		if r.Intn(40) == 0 {
			return alone(api.Node{})
		}
		return alone(leaf(rising(r, 1+r.Intn(3), lo, hi)...))
	}
	seps := rising(r, 1+r.Intn(2), lo, hi)
	w := with(branch(f, seps...), 0)
	for i := range len(seps) + 1 {
		if k.mayHave(w.n, i) == (r.Intn(60) > 0) {
			from, to := lo, hi
			if i > 0 {
				from = numberOf(seps[i-1])
			}
			if i < len(seps) {
				to = numberOf(seps[i]) - 1
			}
			w.under[i] = bush(r, f, k, levels-1, from, to)
		}
	}
	return w
}

// alphabet are the bytes of which texts by chance are made; textAt makes one of a number, rising with it, and numberOf finds the number again.
const alphabet = "\x00\x01abcxyz\xfe\xff"

func textAt(i int) string { return string([]byte{alphabet[min(i/4, 9)], byte(i % 4 * 60)}) }

func numberOf(s string) int {
	for i := range 40 {
		if textAt(i) == s {
			return i
		}
	}
	return 40
}

// rising are up to so many short texts that rise, from one number up to another.
func rising(r *rand.Rand, many, lo, hi int) []string {
	at := lo + r.Intn(3)
	l := []string{textAt(max(0, min(at, 39)))}
	for len(l) < many {
		at += 1 + r.Intn(max(1, (hi-lo)/many))
		if at > hi || at > 39 {
			break
		}
		l = append(l, textAt(at))
	}
	return l
}
