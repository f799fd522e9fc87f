package graft_test

import (
	"math"
	"math/rand"
	"strings"
	"testing"

	"heartwood/api"
	"heartwood/graft"
)

// around are keys below, above, between and equal to those of a node.
func around(n api.Node) []string {
	l := []string{"", "\x00", "b", "m", "\xff", strings.Repeat("\xff", 600)}
	keys := keysOf(n)
	for i, k := range keys {
		if i < 10 || i > len(keys)-5 {
			l = append(l, k, k+"\x00", k[:len(k)/2], k+"\xff")
		}
		if i < 10 && k != "" {
			l = append(l, k[:len(k)-1], k[:len(k)-1]+string([]byte{k[len(k)-1] - 1}), k[:len(k)-1]+string([]byte{k[len(k)-1] + 1}))
		}
	}
	return l
}

// 8.1 of right nodes, and of nodes that are not.
func TestFindAndWay(t *testing.T) {
	for _, f := range few() {
		all := rights(f)
		for _, n := range wrong(f) {
			all = append(all, n)
		}
		for _, n := range all {
			for _, key := range around(n) {
				finds(t, n, key)
			}
		}
	}
}

func TestFindAndWayByChance(t *testing.T) {
	by := rand.New(rand.NewSource(81))
	met, missed := 0, 0
	for range 5000 {
		f := anyFrame(by)
		n := some(by, f)
		key := someKey(by, f)
		finds(t, n, key)
		if _, is := graft.Find(n, key); is {
			met++
		} else {
			missed++
		}
	}
	if met < 200 || missed < 200 {
		t.Error("too few:", met, missed)
	}
}

// Counting stops at the first pair, or separator, that ends it, whatever stands behind.
func TestFindAndWayWhereNothingRises(t *testing.T) {
	both := api.Node{Pairs: leaf("b", "", "d", "", "c", "", "f", "").Pairs, Seps: []string{"c", "f", "d", "d"}}
	for key, want := range map[string]int{"a": 0, "b": 0, "c": 1, "d": 1, "e": 3, "f": 3, "g": 4, "": 0} {
		i, is := graft.Find(both, key)
		if i != want || is != (key == "b" || key == "d" || key == "f") {
			t.Error("Find", key, i, is)
		}
	}
	for key, want := range map[string]int{"b": 0, "c": 1, "d": 1, "e": 1, "f": 4, "": 0} {
		if i := graft.Way(both, key); i != want {
			t.Error("Way", key, i)
		}
	}
	twice := api.Node{Pairs: leaf("c", "1", "c", "2").Pairs, Seps: []string{"c", "c", "b"}}
	if i, is := graft.Find(twice, "c"); i != 0 || !is {
		t.Error("Find of what is there twice", i, is)
	}
	if i := graft.Way(twice, "c"); i != 3 {
		t.Error("Way of what is there twice", i)
	}
	bare := api.Node{Pairs: leaf("", "x").Pairs, Seps: []string{""}}
	if i, is := graft.Find(bare, ""); i != 0 || !is || graft.Way(bare, "") != 1 {
		t.Error("the empty key", i, is)
	}
}

// A leaf has no separators and a branch has no pairs: nothing is counted there.
func TestFindInABranchAndWayInALeaf(t *testing.T) {
	f := few()[0]
	for _, n := range rights(f) {
		for _, key := range around(n) {
			i, is := graft.Find(n, key)
			if len(n.Pairs) == 0 && (i != 0 || is) || len(n.Kids) == 0 && graft.Way(n, key) != 0 {
				t.Fatal(i, is, graft.Way(n, key), brief(f, n))
			}
		}
	}
}

// 8.2 in all frames: keys of all places and lengths.
func TestPutAndRemove(t *testing.T) {
	t.Parallel()
	for _, f := range frames() {
		vals := []string{"", "new", strings.Repeat("w", mostVal(f)), strings.Repeat("w", mostVal(f)+1)}
		for i, n := range rights(f) {
			if i > 8 && f.Width != 2 { // the large ones in some frames alone
				continue
			}
			keys := append(around(n), strings.Repeat("c", mostKey(f)), strings.Repeat("c", mostKey(f)+1))
			for j, key := range keys {
				puts(t, f, n, api.Pair{Key: key, Val: vals[j%len(vals)]})
				removes(t, f, n, key)
			}
		}
	}
}

// What the lengths of keys and values come to, told outright.
func TestPutOfLengths(t *testing.T) {
	for _, f := range frames() {
		l := leaf("b", "1", "d", "2")
		for _, n := range []int{0, 1, 2, mostKey(f) - 1, mostKey(f), mostKey(f) + 1, 2 * mostKey(f), f.Page} {
			want := api.ErrArg
			if n >= 1 && n <= mostKey(f) {
				want = api.OK
			}
			key := strings.Repeat("c", n)
			if e := puts(t, f, l, api.Pair{Key: key, Val: "v"}); e != want {
				t.Errorf("%v: a key of %d bytes: %v", f, n, e)
			}
			if e := puts(t, f, api.Node{}, api.Pair{Key: key}); e != want {
				t.Errorf("%v: a key of %d bytes into the empty leaf: %v", f, n, e)
			}
			if e := removes(t, f, l, key); e != api.OK {
				t.Errorf("%v: Remove of a key of %d bytes: %v", f, n, e)
			}
		}
		for _, n := range []int{0, 1, 127, 128, mostVal(f) - 1, mostVal(f), mostVal(f) + 1, 2 * mostVal(f), f.Page} {
			want := api.OK
			if n > mostVal(f) {
				want = api.ErrArg
			}
			for _, key := range []string{"a", "b", "c", "d", "e"} {
				if e := puts(t, f, l, api.Pair{Key: key, Val: strings.Repeat("v", n)}); e != want {
					t.Errorf("%v: a value of %d bytes: %v", f, n, e)
				}
			}
		}
	}
}

// A leaf may be full, ahead of a put and behind it.
func TestPutMayFill(t *testing.T) {
	for _, f := range few() {
		for _, size := range []int{room(f) - 4, room(f) - 3, room(f), room(f) + 1, 2 * room(f)} {
			n, had, e := graft.Put(f, leafOf(size), api.Pair{Key: "zz", Val: ""})
			if e != api.OK || had || sizeOf(f, n) != size+4 || graft.Full(f, n) != (size+4 > room(f)) {
				t.Error(f, size, had, e, sizeOf(f, n))
			}
		}
	}
}

// 8.2, 8.4 and 8.6 refuse nodes that are not right, or of the other kind, ahead of other arguments; a frame that may not be is told ahead of all.
func TestShapesThatAreRefused(t *testing.T) {
	t.Parallel()
	for _, f := range frames() {
		good, bad := api.Pair{Key: "k", Val: "v"}, api.Pair{Val: strings.Repeat("v", f.Page)}
		refuse := func(f api.Frame, what string, n api.Node, leaf, branch bool, want api.Errno) {
			t.Helper()
			if leaf {
				for _, p := range []api.Pair{good, bad} {
					if e := puts(t, f, n, p); e != want {
						t.Fatalf("Put into %s: %v", what, e)
					}
				}
				if e := removes(t, f, n, "k"); e != want {
					t.Fatalf("Remove from %s: %v", what, e)
				}
			}
			if branch {
				if e := splices(t, f, n, 0, 1, kidsOf(few()[0], 9, 1), nil); e != want {
					t.Fatalf("Splice of %s: %v", what, e)
				}
				if e := splices(t, f, n, -1, 0, nil, []string{"", ""}); e != want {
					t.Fatalf("Splice of %s with more that is wrong: %v", what, e)
				}
			}
		}
		for what, n := range wrong(f) {
			refuse(f, what, n, true, true, api.ErrShape)
			if e := splits(t, f, n); e != api.ErrShape {
				t.Fatalf("Split of %s: %v", what, e)
			}
			refuse(api.Frame{Page: f.Page, Width: f.Width + 32}, what, n, true, true, api.ErrArg)
		}
		for i, n := range rights(f)[:23] {
			isLeaf := len(n.Kids) == 0
			if i < 9 || i > 17 {
				refuse(f, "the other kind", n, !isLeaf, isLeaf, api.ErrShape)
			}
		}
	}
	f := few()[0]
	for _, off := range odd() {
		for _, n := range []api.Node{{}, leaf("b", "1", "d", "2"), branch(f, "m", "p", "q"), leaf("b", "", "a", ""), {Seps: []string{"m"}}} {
			puts(t, off, n, api.Pair{Key: "k"})
			puts(t, off, n, api.Pair{})
			removes(t, off, n, "b")
			splices(t, off, n, 0, 1, kidsOf(f, 9, 1), nil)
			splits(t, off, n)
			if e := splices(t, off, n, 9, 9, nil, nil); e != api.ErrArg {
				t.Fatal(off, e)
			}
		}
	}
}

func TestPutAndRemoveByChance(t *testing.T) {
	by := rand.New(rand.NewSource(82))
	told := map[api.Errno]int{}
	for range 6000 {
		f := anyFrame(by)
		n := some(by, f)
		p := api.Pair{Key: someKey(by, f), Val: strings.Repeat("w", by.Intn(9))}
		switch by.Intn(12) {
		case 0:
			p.Key = ""
		case 1:
			p.Val = strings.Repeat("w", mostVal(f)+by.Intn(3))
		}
		told[puts(t, f, n, p)]++
		told[removes(t, f, n, p.Key)]++
	}
	if told[api.OK] < 1000 || told[api.ErrShape] < 1000 || told[api.ErrArg] < 100 {
		t.Error("too few:", told)
	}
}

// 8.4: all places and numbers in small branches, with as many kids and separators as can be wanted, too few and too many.
func TestSplice(t *testing.T) {
	t.Parallel()
	told := map[api.Errno]int{}
	for _, f := range few() {
		all := []string{"c", "f", "i", "l"}
		for kids := 2; kids <= 5; kids++ {
			n := branch(f, all[:kids-1]...)
			for at := -2; at <= kids+2; at++ {
				for many := -1; many <= kids+2; many++ {
					for others := range 4 {
						for _, seps := range [][]string{nil, {}, {"d"}, {"b"}, {"g"}, {"c"}, {"zz"}, {""}, {"a", "b"}, {"d", "e"}, {"e", "d"}, {"g", "h"}, {"d", "d"}, {"x", "y"}, {"a", "d"}, {"x", "y", "z"}} {
							told[splices(t, f, n, at, many, kidsOf(f, 50, others), seps)]++
						}
					}
				}
			}
		}
	}
	if told[api.OK] < 300 || told[api.ErrOrder] < 300 || told[api.ErrArg] < 1000 {
		t.Error("too few:", told)
	}
}

// Which of the errors it is, told outright.
func TestSpliceRefusals(t *testing.T) {
	for _, f := range frames() {
		n := branch(f, "c", "f")
		one, two := kidsOf(f, 8, 1), kidsOf(f, 8, 2)
		long := strings.Repeat("d", mostKey(f)+1)
		for _, x := range []struct {
			what     string
			at, many int
			kids     []api.Kid
			seps     []string
			want     api.Errno
		}{
			{"the first", 0, 1, one, nil, api.OK},
			{"the last", 2, 1, one, nil, api.OK},
			{"two of three", 0, 2, one, nil, api.OK},
			{"the last two", 1, 2, one, nil, api.OK},
			{"all by two", 0, 3, two, []string{"x"}, api.OK},
			{"all by one", 0, 3, one, nil, api.ErrArg},
			{"the place below 0", -1, 1, one, nil, api.ErrArg},
			{"the place one past", 3, 1, one, nil, api.ErrArg},
			{"none taken out", 1, 0, one, nil, api.ErrArg},
			{"none taken out, at the end", 3, 0, one, nil, api.ErrArg},
			{"fewer than none", 1, -1, one, nil, api.ErrArg},
			{"one too many", 2, 2, one, nil, api.ErrArg},
			{"one too many from the first on", 0, 4, two, []string{"x"}, api.ErrArg},
			{"no kids", 1, 1, nil, nil, api.ErrArg},
			{"no kids, and a separator", 1, 1, nil, []string{"d"}, api.ErrArg},
			{"a separator too few", 1, 1, two, nil, api.ErrArg},
			{"a separator too many", 1, 1, two, []string{"d", "e"}, api.ErrArg},
			{"a separator too many for one", 1, 1, one, []string{"d"}, api.ErrArg},
			{"huge numbers", math.MaxInt, math.MaxInt, one, nil, api.ErrArg},
			{"a huge place", math.MaxInt, 1, one, nil, api.ErrArg},
			{"a huge number", 1, math.MaxInt, one, nil, api.ErrArg},
			{"both most negative", math.MinInt, math.MinInt, one, nil, api.ErrArg},
			{"a sum that wraps round", math.MinInt, math.MaxInt, one, nil, api.ErrArg},
			{"the separator ahead", 1, 1, two, []string{"c"}, api.ErrOrder},
			{"the separator behind", 1, 1, two, []string{"f"}, api.ErrOrder},
			{"below", 1, 1, two, []string{"b"}, api.ErrOrder},
			{"above", 1, 1, two, []string{"g"}, api.ErrOrder},
			{"empty", 0, 1, two, []string{""}, api.ErrOrder},
			{"too long", 1, 1, two, []string{long}, api.ErrOrder},
			{"just not too long", 1, 1, two, []string{long[1:]}, api.OK},
			{"no order and no number: the number is told", 1, 3, two, []string{"b"}, api.ErrArg},
		} {
			if e := splices(t, f, n, x.at, x.many, x.kids, x.seps); e != x.want {
				t.Errorf("%v: %s: %v", f, x.what, e)
			}
		}
		if f.Width < 32 {
			one[0].Sum[f.Width] = 1
			if e := splices(t, f, n, 1, 1, one, nil); e != api.ErrOrder {
				t.Errorf("%v: a digest that does not fit: %v", f, e)
			}
		}
		if e := splices(t, f, n, 1, 1, []api.Kid{{}, {Page: 1 << 31}}, []string{"d"}); e != api.OK {
			t.Errorf("%v: kids on any pages: %v", f, e)
		}
	}
}

func TestSpliceByChance(t *testing.T) {
	by := rand.New(rand.NewSource(84))
	told := map[api.Errno]int{}
	for range 20000 {
		f := anyFrame(by)
		n := some(by, f)
		at, many := by.Intn(len(n.Kids)+2)-by.Intn(2), 1+by.Intn(3)
		seps := someKeys(by, f, by.Intn(3))
		if w := len(n.Seps); by.Intn(2) == 0 && w > 0 && at >= 0 && at < w { // some that stand between
			seps = []string{n.Seps[at] + "\x00"}
			at++
		}
		told[splices(t, f, n, at, many, kidsOf(f, 300, max(0, len(seps)+1-by.Intn(8)/7)), seps)]++
	}
	if told[api.OK] < 1000 || told[api.ErrOrder] < 500 || told[api.ErrArg] < 1000 || told[api.ErrShape] < 1000 {
		t.Error("too few:", told)
	}
}

// What comes out of Splice may be full.
func TestSpliceMayFill(t *testing.T) {
	for _, f := range few() {
		n := branchOf(f, room(f))
		m, e := graft.Splice(f, n, 0, 1, kidsOf(f, 90, 2), []string{"/"})
		if e != api.OK || !graft.Full(f, m) || sizeOf(f, m) != room(f)+6+f.Width {
			t.Error(f, e, sizeOf(f, m))
		}
	}
}
