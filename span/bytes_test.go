package span_test

import (
	"fmt"
	"math/rand"
	"slices"
	"strings"
	"testing"

	"heartwood/api"
	"heartwood/node"
	"heartwood/pack"
	"heartwood/span"
	"heartwood/sums"
)

// tall is a tree of three levels, and a range of it that has several leaves.
func tall(t *testing.T, f api.Frame) (api.Digest, keyRange, string) {
	t.Helper()
	tree := treeOf(t, grown(t, f, longPairs(f, 60)...))
	if shape, e := tree.Shape(); e != api.OK || shape.Height != 3 {
		t.Fatalf("%v: %v %v", f, shape, e)
	}
	r := keyRange{longKey(f, 41), longKey(f, 56)}
	return tree.Root().Sum, r, proved(t, tree, r)
}

// formsOf are the texts of a proof.
func formsOf(t *testing.T, f api.Frame, proof string) []string {
	t.Helper()
	l, e := span.Forms(f, proof)
	if e != api.OK {
		t.Fatal(e)
	}
	return l
}

// Lists that say too little, and lists of nothing.
func TestBytesThatAreNoProofs(t *testing.T) {
	t.Parallel()
	for _, f := range frames() {
		empty, _ := node.Empty(f)
		for _, root := range []api.Digest{{}, empty} {
			for _, r := range []keyRange{{"", ""}, {"b", "d"}, {"d", "b"}} {
				refused(t, "no bytes", f, root, r, "")
				refused(t, "a list of no text", f, root, r, "\x00")
				refused(t, "a list of the empty text", f, root, r, pack.Join(""))
				refused(t, "a list of many empty texts", f, root, r, pack.Join(make([]string, 10000)...))
				refused(t, "the empty leaf twice", f, root, r, pack.Join("\x01\x00", "\x01\x00"))
				refused(t, "the empty leaf's form, in no list", f, root, r, "\x01\x00")
				refused(t, "the empty leaf, and something behind", f, root, r, pack.Join("\x01\x00")+"\x00")
				refused(t, "noughts", f, root, r, strings.Repeat("\x00", 1000))
				refused(t, "ones", f, root, r, strings.Repeat("\x01", 1000))
				refused(t, "bytes 255", f, root, r, strings.Repeat("\xff", 1000))
			}
		}
		for _, r := range []keyRange{{"", ""}, {"b", "d"}, {"d", "b"}, {strings.Repeat("z", 99999), ""}} {
			taken(t, "the empty leaf", f, empty, r, pack.Join("\x01\x00"), nil)
		}
		other := empty
		other[0] ^= 1
		refused(t, "the empty leaf, under another root", f, other, keyRange{"", ""}, pack.Join("\x01\x00"))
	}
}

// Texts that are no plain forms, under the digests that such texts have.
func TestTextsThatAreNoForms(t *testing.T) {
	all := keyRange{"", ""}
	for _, f := range frames() {
		b := branch(f, "g")
		b.Kids[0].Page, b.Kids[1].Page = 2, 3
		paged, e := node.Pack(f, b)
		if e != api.OK {
			t.Fatal(e)
		}
		long := "\x01\x09"
		for i := range 9 {
			long += "\x01" + string(rune('a'+i)) + "\x80" + string([]byte{byte(f.Page / 8 >> 7)}) + strings.Repeat("v", f.Page/8)
		}
		for _, text := range []string{"", "\x00", "\x01", "\x02", "\x03\x00", "\x01\x00\x00", "\x01\x80\x00", "\x01\x01\x00\x00", "\x01\x02\x01e\x00\x01a\x00", "\x01\x02\x01e\x00\x01e\x00", "\x01\x01\x01e", "\x02\x00", "\x02\x01" + strings.Repeat("d", f.Width), paged, plain(t, f, b)[:5], plain(t, f, b) + "\x00", "\x01\x01\x01e\x011\x00", long, strings.Repeat("\x01", 100000)} {
			for _, tag := range []string{"leaf", "branch"} {
				sum, e := sums.Digest(f.Width, tag, text)
				if e != api.OK {
					t.Fatal(e)
				}
				refused(t, "a text that is no form, alone", f, sum, all, pack.Join(text))
				refused(t, "a text that is no form, above a leaf", f, sum, all, pack.Join(text, plain(t, f, leaf("e=1"))))
				above := branch(f, "d")
				above.Kids[1].Sum = sum
				left := leaf("a=1")
				above.Kids[0].Sum = sumOf(t, f, left)
				refused(t, "a text that is no form, below a branch", f, sumOf(t, f, above), all, pack.Join(plain(t, f, above), plain(t, f, left), text))
			}
		}
	}
}

// A leaf's form is told as a branch's, and the other way round, never: but for their tags they would have one digest.
func TestTagsAreApart(t *testing.T) {
	f := api.Frame{Page: 1024, Width: 32}
	w := with(branch(f, "m"), 0, alone(leaf("a=1")))
	root, forms := linked(t, f, w)
	taken(t, "all is well", f, root, one("a"), pack.Join(forms...), leaf("a=1").Pairs)
	wrong, _ := sums.Digest(f.Width, "branch", forms[1])
	refused(t, "a leaf under a branch's digest", f, wrong, one("a"), pack.Join(forms[1]))
	wrong, _ = sums.Digest(f.Width, "leaf", forms[0])
	refused(t, "a branch under a leaf's digest", f, wrong, one("a"), pack.Join(forms...))
	refused(t, "the leaf under the branch's digest", f, root, one("a"), pack.Join(forms[1]))
}

// Texts of a proof that are left out, laid there twice, exchanged, and such as are laid between them.
func TestOtherLists(t *testing.T) {
	t.Parallel()
	for _, f := range frames() {
		root, r, that := tall(t, f)
		forms := formsOf(t, f, that)
		if len(forms) < 6 {
			t.Fatalf("%v: a proof of %d texts", f, len(forms))
		}
		other := plain(t, f, leaf("k=1"))
		for i, form := range forms {
			list := func(what string, l []string) { t.Helper(); refused(t, what, f, root, r, pack.Join(l...)) }
			list("without one of the texts", slices.Delete(slices.Clone(forms), i, i+1))
			list("with one text twice", slices.Insert(slices.Clone(forms), i, form))
			list("with an empty text", slices.Insert(slices.Clone(forms), i, ""))
			list("with another leaf more", slices.Insert(slices.Clone(forms), i, other))
			list("with the empty leaf more", slices.Insert(slices.Clone(forms), i, "\x01\x00"))
			list("with another leaf in its place", slices.Replace(slices.Clone(forms), i, i+1, other))
			list("its end alone", forms[i+1:])
			list("its beginning alone", forms[:i])
			for j := range i {
				l := slices.Clone(forms)
				l[i], l[j] = l[j], l[i]
				list("two texts exchanged", l)
			}
		}
		refused(t, "with one more at the end", f, root, r, pack.Join(append(slices.Clone(forms), other)...))
		refused(t, "with the last one more at the end", f, root, r, pack.Join(append(slices.Clone(forms), forms[len(forms)-1])...))
		slices.Reverse(forms)
		refused(t, "the wrong way round", f, root, r, pack.Join(forms...))
		refused(t, "the texts in no list", f, root, r, strings.Join(forms, ""))
		refused(t, "a list in a list", f, root, r, pack.Join(that))
		refused(t, "twice", f, root, r, that+that)
	}
}

// A proof that is cut short anywhere, and one that has something behind or ahead of it.
func TestCutShort(t *testing.T) {
	for _, f := range []api.Frame{{Page: 1024, Width: 32}, {Page: 1024, Width: 1}, {Page: 2048, Width: 5}} {
		root, r, that := tall(t, f)
		for at := range len(that) {
			refused(t, "cut short", f, root, r, that[:at])
		}
		for _, more := range []string{"\x00", "\x01", "\xff", that} {
			refused(t, "with something behind", f, root, r, that+more)
			refused(t, "with something ahead", f, root, r, more+that)
		}
	}
}

// A byte is turned at each place: where a digest has all its bytes nothing is proved then.
func TestTurned(t *testing.T) {
	for _, f := range sizes() {
		t.Run(fmt.Sprint(f), func(t *testing.T) {
			t.Parallel()
			rnd := rand.New(rand.NewSource(165))
			root, r, that := tall(t, f)
			// Of long pages every few bytes, and never the same ones of each.
			step := f.Page / 1024 * (f.Page / 1024)
			for at := 0; at < len(that); at += 1 + rnd.Intn(2*step-1) {
				for _, by := range []byte{1, byte(2 + rnd.Intn(254))} {
					b := []byte(that)
					b[at] ^= by
					if holds(t, "turned", f, root, r, string(b)) {
						isClash(t, f, root, that, string(b))
					}
				}
			}
			for at := range f.Width {
				other := root
				other[at] ^= 1 << (at % 8)
				refused(t, "another root", f, other, r, that)
			}
		})
	}
}

// Nodes of other trees: a proof of the same range in another tree, and one whose nodes are of two.
func TestOtherTrees(t *testing.T) {
	t.Parallel()
	for _, f := range []api.Frame{{Page: 1024, Width: 32}, {Page: 4096, Width: 32}, {Page: 8192, Width: 6}} {
		pairs := longPairs(f, 60)
		tree := treeOf(t, grown(t, f, pairs...))
		root := tree.Root().Sum
		for i := range 12 {
			other := slices.Clone(pairs)
			other[5*i].Val = "another one"
			beside := treeOf(t, grown(t, f, other...))
			for _, r := range []keyRange{one(other[5*i].Key), {longKey(f, 10*i), longKey(f, 10*i+12)}, {longKey(f, 119-10*i), ""}} {
				ours, theirs := proved(t, tree, r), proved(t, beside, r)
				refused(t, "another tree's proof", f, root, r, theirs)
				a, b := formsOf(t, f, ours), formsOf(t, f, theirs)
				for at := range min(len(a), len(b)) + 1 {
					mixed := pack.Join(slices.Concat(a[:at], b[at:])...)
					if holds(t, "nodes of two trees", f, root, r, mixed) != (mixed == ours) {
						t.Errorf("%v: %.20q: the first %d nodes ours, the others theirs", f, r, at)
					}
				}
			}
		}
	}
}

// Bytes by chance, and pieces of proofs put together by chance: whatever they are, the reading ends, and says what the words say.
func TestBytesByChance(t *testing.T) {
	for i, f := range sizes() {
		t.Run(fmt.Sprint(f), func(t *testing.T) {
			t.Parallel()
			rnd := rand.New(rand.NewSource(int64(166 + i)))
			root, r, that := tall(t, f)
			forms := formsOf(t, f, that)
			for range 1000 {
				bytes := make([]byte, rnd.Intn(200))
				rnd.Read(bytes)
				texts := slices.Clone(forms)
				at := rnd.Intn(len(texts))
				switch rnd.Intn(4) {
				case 0:
					texts[at] = string(bytes)
				case 1:
					texts = append(texts, string(bytes))
				case 2:
					texts[at] = texts[at][:rnd.Intn(len(texts[at]))] + string(bytes)
				case 3:
					texts[at] = texts[rnd.Intn(len(texts))]
				}
				if joined := pack.Join(texts...); joined != that && holds(t, "pieces by chance", f, root, r, joined) {
					isClash(t, f, root, that, joined)
				}
				refused(t, "bytes by chance", f, root, r, string(bytes))
				if len(bytes) > 0 {
					bytes[0] %= 4
				}
				refused(t, "bytes by chance, as a list", f, root, r, string(bytes))
			}
		})
	}
}
