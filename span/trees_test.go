package span_test

import (
	"fmt"
	"maps"
	"math/rand"
	"slices"
	"strings"
	"testing"

	"heartwood/api"
	"heartwood/node"
	"heartwood/pack"
	"heartwood/page"
	"heartwood/span"
	"heartwood/trunk"
)

// walked are all nodes of a tree.
func walked(t *testing.T, tree *trunk.Tree) []api.Spot {
	t.Helper()
	var l []api.Spot
	for s, e := range tree.Walk() {
		if e != api.OK {
			t.Fatal(e)
		}
		l = append(l, s)
	}
	return l
}

// ofRange are the spots of the nodes of a range, by the chapter's words: those to which each branch above leads by a kid that may have of it.
func ofRange(spots []api.Spot, r keyRange) []api.Spot {
	had := map[string]api.Node{}
	var l []api.Spot
	for _, s := range spots {
		if last := len(s.Way) - 1; last >= 0 {
			above, is := had[fmt.Sprint(s.Way[:last])]
			if !is || !r.mayHave(above, s.Way[last]) {
				continue
			}
		}
		had[fmt.Sprint(s.Way)] = s.Node
		l = append(l, s)
	}
	return l
}

// ends are what to begin and end ranges with: a tree's keys and separators, what lies just below and just above each of them, and what lies beside all, texts among it that are longer than any key.
func ends(f api.Frame, spots []api.Spot) []string {
	had := map[string]bool{"": true, "\x00": true, "m": true, "\xff": true}
	for _, long := range []int{f.Page / 16, f.Page, 10000} {
		for _, c := range []string{"\x00", "k", "m", "\xff"} {
			had[strings.Repeat(c, long)] = true
		}
	}
	near := func(s string) {
		last := len(s) - 1
		had[s], had[s+"\x00"], had[s[:last]] = true, true, true
		had[s[:last]+string([]byte{s[last] - 1})] = true
		had[s[:last]+string([]byte{s[last] + 1})] = true
		had[s[:last]+string([]byte{s[last] - 1})+strings.Repeat("\xff", f.Page/16)] = true
	}
	for _, s := range spots {
		for _, p := range s.Node.Pairs {
			near(p.Key)
		}
		for _, sep := range s.Node.Seps {
			near(sep)
		}
	}
	return slices.Sorted(maps.Keys(had))
}

// someRanges are ranges by chance whose ends are out of a list: the whole, such as have no end, wide ones, narrow ones, and such as have no key.
func someRanges(r *rand.Rand, ends []string, many int) []keyRange {
	l := []keyRange{{"", ""}}
	for range many {
		i := r.Intn(len(ends))
		switch r.Intn(7) {
		case 0:
			l = append(l, keyRange{ends[i], ""})
		case 1:
			l = append(l, keyRange{"", ends[i]})
		case 2:
			l = append(l, keyRange{ends[i], ends[i]})
		case 3, 4:
			l = append(l, keyRange{ends[i], ends[min(len(ends)-1, i+1+r.Intn(20))]})
		default:
			l = append(l, keyRange{ends[i], ends[r.Intn(len(ends))]})
		}
	}
	return l
}

// isProved asks a well formed tree for ranges, each with its proof, and holds all that is told against a list of its pairs and against its Walk (P16.1, P16.2, P16.5, P16.6, P16.9).
func isProved(t *testing.T, tree *trunk.Tree, pairs []api.Pair, ranges []keyRange) {
	t.Helper()
	f, root := tree.Frame(), tree.Root().Sum
	if _, e := tree.Shape(); e != api.OK {
		t.Fatalf("%v: no well formed tree: %v", f, e)
	}
	spots := walked(t, tree)
	laid := map[uint32]string{}
	for _, s := range spots {
		laid[s.Page] = plain(t, f, s.Node)
	}
	for _, r := range ranges {
		in := r.of(pairs)
		said := proved(t, tree, r)
		taken(t, "a tree's proof", f, root, r, said, in)
		var forms []string
		want := api.Shape{Count: uint64(len(in))}
		levels := map[int]bool{}
		with := 0
		for _, s := range ofRange(spots, r) {
			forms = append(forms, laid[s.Page])
			levels[len(s.Way)] = true
			want.Height = max(want.Height, len(s.Way)+1)
			if len(s.Node.Kids) > 0 {
				want.Branches++
				continue
			}
			want.Leaves++
			if len(r.of(s.Node.Pairs)) > 0 {
				with++
			}
		}
		if len(spots) == 0 {
			forms = []string{"\x01\x00"}
		}
		if said != pack.Join(forms...) {
			t.Errorf("%v: Prove(%.20q): %d bytes, and not those of %d nodes", f, r, len(said), len(forms))
		}
		if got, e := span.Touched(tree, r.lo, r.hi); got != want || e != api.OK {
			t.Errorf("%v: Touched(%.20q): %v %v, and not %v", f, r, got, e, want)
		}
		isSmall(t, f, r, want, len(levels), with, said)
	}
}

// isSmall holds a proof against P16.9's bounds.
func isSmall(t *testing.T, f api.Frame, r keyRange, s api.Shape, levels, with int, proof string) {
	t.Helper()
	if s.Leaves+s.Branches > 2*levels+2*with {
		t.Errorf("%v: %.20q: %d leaves and %d branches on %d levels for %d leaves that have a pair", f, r, s.Leaves, s.Branches, levels, with)
	}
	forms, e := span.Forms(f, proof)
	if e != api.OK {
		t.Fatal(e)
	}
	bytes := 0
	for _, form := range forms {
		bytes += len(form) + 2
		if len(form) > f.Page-32 {
			t.Errorf("%v: %.20q: a form of %d bytes", f, r, len(form))
		}
	}
	// How many forms there are stands ahead, in as many bytes as that number needs.
	if len(proof) > bytes+3 {
		t.Errorf("%v: %.20q: a proof of %d bytes, and at most %d of its forms", f, r, len(proof), bytes)
	}
}

// Trees of no level up to four, of pairs that are as long as may be, in all frames.
func TestTreesOfAllHeights(t *testing.T) {
	for i, f := range frames() {
		t.Run(fmt.Sprint(f), func(t *testing.T) {
			t.Parallel()
			r := rand.New(rand.NewSource(int64(160 + i)))
			heights := map[int]bool{}
			for _, many := range []int{0, 1, 2, 4, 12, 40, 100, 250} {
				pairs := longPairs(f, many)
				tree := treeOf(t, grown(t, f, pairs...))
				shape, _ := tree.Shape()
				heights[shape.Height] = true
				isProved(t, tree, pairs, someRanges(r, ends(f, walked(t, tree)), 60))
			}
			for height := range 4 {
				if !heights[height] {
					t.Errorf("no tree of %d levels", height)
				}
			}
		})
	}
}

// The places that a range may have in a tree, each by its name.
func TestPlacesOfRanges(t *testing.T) {
	for _, f := range frames() {
		t.Run(fmt.Sprint(f), func(t *testing.T) {
			t.Parallel()
			inAllPlaces(t, f)
		})
	}
}

func inAllPlaces(t *testing.T, f api.Frame) {
	pairs := longPairs(f, 40)
	tree := treeOf(t, grown(t, f, pairs...))
	spots := walked(t, tree)
	var leaves []api.Node
	var seps []string
	for _, s := range spots {
		if seps = append(seps, s.Node.Seps...); len(s.Node.Kids) == 0 {
			leaves = append(leaves, s.Node)
		}
	}
	slices.Sort(seps)
	key := func(i int) string { return longKey(f, i) }
	first := func(i int) string { return leaves[i].Pairs[0].Key }
	end := len(leaves) - 1
	for name, r := range map[string]keyRange{
		"the whole tree": {"", ""}, "the whole tree, from its least key": {key(1), ""}, "the whole tree, up to above its greatest": {"", key(80)}, "all but the greatest": {"", key(79)}, "all but the least": {key(2), ""},
		"one key": {key(21), key(22)}, "one key, as narrow as may be": {key(21), key(21) + "\x00"}, "no key, between two": {key(22), key(23)}, "no key, below all": {"", key(1)}, "no key, above all": {key(80), ""}, "no key, for the end is the beginning": {key(21), key(21)}, "no key, for the end is ahead of the beginning": {key(31), key(21)}, "no key, for the end is far ahead of the beginning": {"z", "a"}, "the first kid of no branch, for its separator is not above lo": {seps[0], "\x00"},
		"from a key that is there": {key(21), key(41)}, "from one that is not": {key(22), key(42)},
		"from a separator": {seps[2], ""}, "from just below it": {seps[2][:len(seps[2])-1], ""}, "from just above it": {seps[2] + "\x00", ""},
		"up to a separator": {"", seps[2]}, "up to just below it": {"", seps[2][:len(seps[2])-1]}, "up to just above it": {"", seps[2] + "\x00"},
		"from one separator to the next": {seps[2], seps[3]}, "from a separator up to itself": {seps[2], seps[2]}, "from a separator back": {seps[3], seps[2]},
		"within one leaf": {first(3), first(3) + "\x00"}, "one leaf": {first(3), first(4)}, "over two leaves": {first(3), first(4) + "\x00"}, "over many": {first(1), first(end)}, "over all": {first(0), first(end) + "\x00"},
		"texts longer than any key": {key(21) + strings.Repeat("z", f.Page), key(41) + strings.Repeat("z", 10000)}, "long texts below all": {strings.Repeat("\x00", 10000), strings.Repeat("\x00", 10001)}, "long texts above all": {strings.Repeat("\xff", 10000), strings.Repeat("\xff", 10001)},
	} {
		t.Run(name, func(t *testing.T) { isProved(t, tree, pairs, []keyRange{r}) })
	}
	var near []keyRange
	for _, s := range seps {
		for _, lo := range []string{s, s + "\x00", s[:len(s)-1]} {
			near = append(near, keyRange{lo, ""}, keyRange{"", lo}, keyRange{lo, lo}, keyRange{lo, lo + "\x00"})
		}
	}
	isProved(t, tree, pairs, near)
}

// Where hi is not above lo there is a branch that has no kid for the range, and the proof ends there.
func TestBranchesThatAreEnds(t *testing.T) {
	t.Parallel()
	for _, f := range frames() {
		pairs := longPairs(f, 250)
		tree := treeOf(t, grown(t, f, pairs...))
		shape, _ := tree.Shape()
		rootNode, e := tree.At()
		if e != api.OK || shape.Height < 3 {
			t.Fatal(shape, e)
		}
		sep := rootNode.Seps[0]
		// At the root already.
		if got, e := span.Touched(tree, sep, sep); got != (api.Shape{Height: 1, Branches: 1}) || e != api.OK {
			t.Errorf("%v: Touched: %v %v", f, got, e)
		}
		taken(t, "the root alone", f, tree.Root().Sum, keyRange{sep, sep}, pack.Join(plain(t, f, rootNode)), nil)
		// One level further down.
		kid, e := tree.At(0)
		if e != api.OK {
			t.Fatal(e)
		}
		sep = kid.Seps[0]
		if got, e := span.Touched(tree, sep, sep); got != (api.Shape{Height: 2, Branches: 2}) || e != api.OK {
			t.Errorf("%v: Touched: %v %v", f, got, e)
		}
		taken(t, "two branches", f, tree.Root().Sum, keyRange{sep, sep}, pack.Join(plain(t, f, rootNode), plain(t, f, kid)), nil)
		refused(t, "and a leaf more", f, tree.Root().Sum, keyRange{sep, sep}, proved(t, tree, keyRange{sep, sep + "\x00"}))
		isProved(t, tree, pairs, []keyRange{{sep, sep}, {sep + "\x00", sep}, {"z", "a"}})
	}
}

// sorted are a map's pairs.
func sorted(m map[string]string) []api.Pair {
	var l []api.Pair
	for _, k := range slices.Sorted(maps.Keys(m)) {
		l = append(l, api.Pair{Key: k, Val: m[k]})
	}
	return l
}

// Trees that come to be by puts and deletes by chance, of short keys and long ones, against a plain map.
func TestTreesByChance(t *testing.T) {
	for i, f := range frames() {
		t.Run(fmt.Sprint(f), func(t *testing.T) {
			t.Parallel()
			r := rand.New(rand.NewSource(int64(161 + i)))
			x, pairs := grown(t, f), map[string]string{}
			for range 12 {
				for range r.Intn(60) {
					key := textOf(r, []int{2, f.Page / 16}[r.Intn(2)])
					if r.Intn(3) == 0 {
						if _, e := x.Delete(key); e != api.OK {
							t.Fatal(e)
						}
						delete(pairs, key)
						continue
					}
					val := strings.Repeat("v", r.Intn(f.Page/8+1))
					if _, e := x.Put(key, val); e != api.OK {
						t.Fatal(e)
					}
					pairs[key] = val
				}
				tree := treeOf(t, x)
				isProved(t, tree, sorted(pairs), someRanges(r, ends(f, walked(t, tree)), 15))
			}
		})
	}
}

// textOf is a text by chance, of one byte up to most.
func textOf(r *rand.Rand, most int) string {
	b := make([]byte, 1+r.Intn(most))
	for i := range b {
		b[i] = alphabet[r.Intn(len(alphabet))]
	}
	return string(b)
}

// Where the nodes lie is not in the proof: a tree has the same proofs in memory and on any pages.
func TestProofsDoNotHangOnPages(t *testing.T) {
	t.Parallel()
	for i, f := range sizes() {
		r := rand.New(rand.NewSource(int64(162 + i)))
		pairs := longPairs(f, 40)
		x := grown(t, f, pairs...)
		inMemory := treeOf(t, x)
		many := x.Changed()
		var up, down []uint32
		for i := range many {
			up = append(up, uint32(i+2))
			down = append(down, uint32(many-i)+70)
		}
		for _, numbers := range [][]uint32{up, down} {
			pages, root, e := x.Lay(9, numbers)
			if e != api.OK {
				t.Fatal(e)
			}
			shelf, e := page.NewShelf(f, pages...)
			source, code := trunk.Over(f, shelf)
			if e != api.OK || code != api.OK {
				t.Fatal(e, code)
			}
			tree := treeAt(t, f, source, root)
			ranges := someRanges(r, ends(f, walked(t, tree)), 60)
			for _, k := range ranges {
				if proved(t, tree, k) != proved(t, inMemory, k) {
					t.Errorf("%v: %.20q: two proofs of one tree", f, k)
				}
			}
			isProved(t, tree, pairs, ranges[:20])
		}
	}
}

// A proof is that of the ranges that have just its nodes, and of no other ones under the same root: no narrower one, and no wider one.
func TestProofsOfOtherRanges(t *testing.T) {
	t.Parallel()
	for i, f := range []api.Frame{{Page: 1024, Width: 32}, {Page: 2048, Width: 32}, {Page: 1024, Width: 9}} {
		r := rand.New(rand.NewSource(int64(163 + i)))
		pairs := longPairs(f, 60)
		tree := treeOf(t, grown(t, f, pairs...))
		root := tree.Root().Sum
		ranges := someRanges(r, ends(f, walked(t, tree)), 50)
		alike := 0
		for _, a := range ranges {
			of := proved(t, tree, a)
			for _, b := range ranges {
				same := proved(t, tree, b) == of
				if same {
					alike++
				}
				if holds(t, "another range's proof", f, root, b, of) != same {
					t.Errorf("%v: the proof of %.20q, read for %.20q: it is the same: %t", f, a, b, same)
				}
			}
		}
		if alike <= len(ranges) || alike > len(ranges)*len(ranges)/2 {
			t.Errorf("%v: %d of %d are alike", f, alike, len(ranges)*len(ranges))
		}
		// A step at a time, on either side.
		for i := 1; i+1 < len(pairs); i++ {
			k := keyRange{pairs[i].Key, pairs[(i+len(pairs))/2].Key}
			that := proved(t, tree, k)
			for _, other := range []keyRange{{pairs[i-1].Key, k.hi}, {pairs[i+1].Key, k.hi}, {k.lo, pairs[(i+len(pairs))/2-1].Key}, {k.lo, ""}, {"", k.hi}} {
				if holds(t, "a range beside", f, root, other, that) != (that == proved(t, tree, other)) {
					t.Errorf("%v: the proof of %.20q, read for %.20q", f, k, other)
				}
			}
		}
	}
}

// The widest proof that there is: one of all nodes of a tree with many pairs.
func TestTheWholeOfALargeTree(t *testing.T) {
	t.Parallel()
	f := api.Frame{Page: 1024, Width: 32}
	pairs := longPairs(f, 3000)
	tree := treeOf(t, grown(t, f, pairs...))
	isProved(t, tree, pairs, []keyRange{{"", ""}, {pairs[0].Key, pairs[2999].Key}, {pairs[2000].Key, ""}})
	if node.Size(f, walked(t, tree)[0].Node) > f.Room() {
		t.Error("the root is too large")
	}
}
