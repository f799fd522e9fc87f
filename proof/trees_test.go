package proof_test

import (
	"fmt"
	"maps"
	"math/rand"
	"slices"
	"strings"
	"testing"

	"heartwood/api"
	"heartwood/pack"
	"heartwood/page"
	"heartwood/proof"
	"heartwood/trunk"
)

// questions are what to ask a tree for: its keys and separators, what lies just below and above each of them, and what lies beside all.
func questions(t *testing.T, tree *trunk.Tree) []string {
	t.Helper()
	most := tree.Frame().Page / 16
	had := map[string]bool{"\x00": true, "m": true, "\xff": true, strings.Repeat("\x00", most): true, strings.Repeat("m", most): true, strings.Repeat("\xff", most): true}
	near := func(s string) {
		last := len(s) - 1
		had[s], had[s+"\x00"], had[s[:last]] = true, true, true
		had[s[:last]+string([]byte{s[last] - 1})] = true
		had[s[:last]+string([]byte{s[last] + 1})] = true
	}
	for spot, e := range tree.Walk() {
		if e != api.OK {
			t.Fatal(e)
		}
		for _, p := range spot.Node.Pairs {
			near(p.Key)
		}
		for _, s := range spot.Node.Seps {
			near(s)
		}
	}
	maps.DeleteFunc(had, func(s string, _ bool) bool { return len(s) < 1 || len(s) > most })
	return slices.Sorted(maps.Keys(had))
}

// isProved asks a tree for keys, each with its proof, and holds what is read from it against a map and against the tree itself (P15.1, P15.6, P15.8, P15.9).
func isProved(t *testing.T, tree *trunk.Tree, pairs map[string]string, keys []string) {
	t.Helper()
	f, root := tree.Frame(), tree.Root().Sum
	shape, e := tree.Shape()
	if e != api.OK {
		t.Fatalf("%v: no well formed tree: %v", f, e)
	}
	for _, key := range keys {
		val, is := pairs[key]
		if v, has, e := tree.Get(key); v != val || has != is || e != api.OK {
			t.Fatalf("%v: Get(%.20q): %.20q %t %v", f, key, v, has, e)
		}
		said := proved(t, tree, key)
		taken(t, "a tree's proof", f, root, key, said, api.Answer{Found: is, Val: val})
		if want := onTheWay(t, tree, key); said != pack.Join(want...) || len(want) != max(shape.Height, 1) {
			t.Errorf("%v: Prove(%.20q): %d levels, %d nodes: %x", f, key, shape.Height, len(want), said)
		}
		if len(said) > proof.Most(f, shape.Height) || proof.Most(f, shape.Height) != f.Page*max(shape.Height, 1) {
			t.Errorf("%v: Prove(%.20q): %d bytes, and %d at most", f, key, len(said), proof.Most(f, shape.Height))
		}
	}
}

// onTheWay are the plain forms of the nodes on a key's way, got one by one from the root down.
func onTheWay(t *testing.T, tree *trunk.Tree, key string) []string {
	t.Helper()
	var way []int
	var forms []string
	for {
		n, e := tree.At(way...)
		if e != api.OK {
			t.Fatal(e)
		}
		forms = append(forms, plain(t, tree.Frame(), n))
		if len(n.Kids) == 0 {
			return forms
		}
		way = append(way, wayOf(n, key))
	}
}

// mapOf is a map of pairs.
func mapOf(pairs []api.Pair) map[string]string {
	m := map[string]string{}
	for _, p := range pairs {
		m[p.Key] = p.Val
	}
	return m
}

// Trees of no level up to four, of pairs that are as long as may be, in all frames.
func TestTreesOfAllHeights(t *testing.T) {
	for _, f := range frames() {
		t.Run(fmt.Sprint(f), func(t *testing.T) {
			t.Parallel()
			heights := map[int]bool{}
			for _, many := range []int{0, 1, 2, 4, 12, 40, 100, 250} {
				pairs := longPairs(f, many)
				tree := treeOf(t, grown(t, f, pairs...))
				shape, _ := tree.Shape()
				heights[shape.Height] = true
				keys := questions(t, tree)
				if len(keys) > 200 {
					rand.New(rand.NewSource(int64(many))).Shuffle(len(keys), func(i, j int) { keys[i], keys[j] = keys[j], keys[i] })
					keys = keys[:200]
				}
				isProved(t, tree, mapOf(pairs), keys)
			}
			for height := range 4 {
				if !heights[height] {
					t.Errorf("no tree of %d levels", height)
				}
			}
		})
	}
}

// The places that a key may have in a tree, each by its name.
func TestPlacesOfKeys(t *testing.T) {
	for _, f := range frames() {
		x := grown(t, f, longPairs(f, 30)...)
		tree := treeOf(t, x)
		rootNode, e := tree.At()
		if e != api.OK || len(rootNode.Seps) == 0 {
			t.Fatal(e)
		}
		most := f.Page / 16
		pairs := mapOf(longPairs(f, 30))
		for name, key := range map[string]string{
			"below all": "a", "above all": "z", "the least": longKey(f, 1), "the greatest": longKey(f, 59), "just below the least": longKey(f, 0), "just above the greatest": longKey(f, 60),
			"between two pairs": longKey(f, 10), "a separator": rootNode.Seps[0], "a beginning of all": "k", "the most bytes, the least": strings.Repeat("\x00", most), "the most bytes, the greatest": strings.Repeat("\xff", most), "one byte, the least": "\x00", "one byte, the greatest": "\xff",
		} {
			t.Run(name, func(t *testing.T) { isProved(t, tree, pairs, []string{key}) })
		}
		// Of each separator: it itself, and the greatest text below it that may be asked for.
		for spot, e := range tree.Walk() {
			if e != api.OK {
				t.Fatal(e)
			}
			for _, s := range spot.Node.Seps {
				isProved(t, tree, pairs, []string{s, s[:len(s)-1] + string([]byte{s[len(s)-1] - 1})})
			}
		}
		for _, key := range []string{"", strings.Repeat("k", most+1), strings.Repeat("k", 100000)} {
			if s, e := proof.Prove(tree, key); s != "" || e != api.ErrArg {
				t.Errorf("%v: Prove of %d bytes: %x %v", f, len(key), s, e)
			}
		}
	}
}

// Trees that come to be by puts and deletes by chance, of short keys and long ones, against a plain map.
func TestTreesByChance(t *testing.T) {
	for i, f := range frames() {
		t.Run(fmt.Sprint(f), func(t *testing.T) {
			t.Parallel()
			r := rand.New(rand.NewSource(int64(151 + i)))
			x, pairs := grown(t, f), map[string]string{}
			for range 12 {
				for range r.Intn(60) {
					key := textOf(r, []int{2, f.Page / 16}[r.Intn(2)])
					if r.Intn(3) == 0 {
						if _, e := x.Delete(key); e != api.OK {
							t.Fatal(e)
						}
						delete(pairs, key)
						continue
					}
					val := strings.Repeat("v", r.Intn(f.Page/8+1))
					if _, e := x.Put(key, val); e != api.OK {
						t.Fatal(e)
					}
					pairs[key] = val
				}
				tree := treeOf(t, x)
				isProved(t, tree, pairs, picked(r, questions(t, tree), 25))
			}
		})
	}
}

// textOf is a text by chance, of one byte up to most.
func textOf(r *rand.Rand, most int) string {
	b := make([]byte, 1+r.Intn(most))
	for i := range b {
		b[i] = "\x00\x01abcxyz\xfe\xff"[r.Intn(10)]
	}
	return string(b)
}

// picked are so many of a list's things, at most.
func picked[T any](r *rand.Rand, l []T, most int) []T {
	l = slices.Clone(l)
	r.Shuffle(len(l), func(i, j int) { l[i], l[j] = l[j], l[i] })
	return l[:min(len(l), most)]
}

// Where the nodes lie is not in the proof: a tree has the same proofs in memory and on any pages.
func TestProofsDoNotHangOnPages(t *testing.T) {
	for _, f := range sizes() {
		pairs := longPairs(f, 40)
		x := grown(t, f, pairs...)
		inMemory := treeOf(t, x)
		many := x.Changed()
		var up, down []uint32
		for i := range many {
			up = append(up, uint32(i+2))
			down = append(down, uint32(many-i)+70)
		}
		for _, numbers := range [][]uint32{up, down} {
			pages, root, e := x.Lay(9, numbers)
			if e != api.OK {
				t.Fatal(e)
			}
			shelf, e := page.NewShelf(f, pages...)
			source, code := trunk.Over(f, shelf)
			if e != api.OK || code != api.OK {
				t.Fatal(e, code)
			}
			tree := treeAt(t, f, source, root)
			for _, key := range questions(t, tree) {
				if a, b := proved(t, tree, key), proved(t, inMemory, key); a != b {
					t.Errorf("%v: %.20q: two proofs of one tree: %x, %x", f, key, a, b)
				}
			}
			isProved(t, tree, mapOf(pairs), questions(t, tree)[:20])
		}
	}
}

// A proof is that of the keys that lie in its leaf, and of no other one under the same root.
func TestProofsOfOtherKeys(t *testing.T) {
	for _, f := range []api.Frame{small(), {Page: 2048, Width: 32}, {Page: 1024, Width: 9}} {
		tree := treeOf(t, grown(t, f, longPairs(f, 60)...))
		root := tree.Root().Sum
		keys := picked(rand.New(rand.NewSource(7)), questions(t, tree), 60)
		alike := 0
		for _, a := range keys {
			of := proved(t, tree, a)
			for _, b := range keys {
				same := proved(t, tree, b) == of
				if same {
					alike++
				}
				if holds(t, "another key's proof", f, root, b, of) != same {
					t.Errorf("%v: the proof of %.20q, read for %.20q: it is the same: %t", f, a, b, same)
				}
			}
		}
		if alike <= len(keys) || alike > len(keys)*len(keys)/2 {
			t.Errorf("%v: %d of %d are alike", f, alike, len(keys)*len(keys))
		}
	}
}
