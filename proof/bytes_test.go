package proof_test

import (
	"fmt"
	"math/rand"
	"slices"
	"strings"
	"testing"

	"heartwood/api"
	"heartwood/node"
	"heartwood/pack"
	"heartwood/proof"
	"heartwood/sums"
)

// tall is a proof of a key of three levels, with its root digest.
func tall(t *testing.T, f api.Frame) (api.Digest, string, string) {
	t.Helper()
	tree := treeOf(t, grown(t, f, longPairs(f, 60)...))
	if shape, e := tree.Shape(); e != api.OK || shape.Height != 3 {
		t.Fatalf("%v: %v %v", f, shape, e)
	}
	key := longKey(f, 61)
	return tree.Root().Sum, key, proved(t, tree, key)
}

// Lists of too few texts, and of too many, whose digests are right.
func TestHowManyTexts(t *testing.T) {
	for _, f := range frames() {
		empty, _ := node.Empty(f)
		for _, root := range []api.Digest{{}, empty} {
			refused(t, "no bytes", f, root, "m", "")
			refused(t, "a list of no text", f, root, "m", "\x00")
			refused(t, "a list of the empty text", f, root, "m", pack.Join(""))
			refused(t, "a list of 33 empty texts", f, root, "m", pack.Join(make([]string, 33)...))
			refused(t, "a list of 34 empty texts", f, root, "m", pack.Join(make([]string, 34)...))
			refused(t, "a list of many empty texts", f, root, "m", pack.Join(make([]string, 100000)...))
			refused(t, "the empty leaf twice", f, root, "m", pack.Join("\x01\x00", "\x01\x00"))
			refused(t, "the empty leaf's form, in no list", f, root, "m", "\x01\x00")
		}
		for _, levels := range []int{1, 2, 3, 31, 32, 33, 34, 35, 40} {
			nodes := chain(f, levels)
			root, forms := linked(t, f, "m", nodes...)
			that := pack.Join(forms...)
			if levels > mostLevels {
				refused(t, fmt.Sprint("a chain of ", levels), f, root, "m", that)
			} else {
				taken(t, fmt.Sprint("a chain of ", levels), f, root, "m", that, api.Answer{Found: true, Val: "1"})
			}
			if levels > 1 {
				refused(t, "a chain without its leaf", f, root, "m", pack.Join(forms[:levels-1]...))
				refused(t, "a chain without its root", f, root, "m", pack.Join(forms[1:]...))
				refused(t, "a chain with its leaf twice", f, root, "m", pack.Join(append(slices.Clone(forms), forms[levels-1])...))
				refused(t, "a chain with its root twice", f, root, "m", pack.Join(append([]string{forms[0]}, forms...)...))
				slices.Reverse(forms)
				refused(t, "a chain the wrong way round", f, root, "m", pack.Join(forms...))
			}
		}
	}
}

// chain is so many nodes, one below the other, around m.
func chain(f api.Frame, levels int) []api.Node {
	var nodes []api.Node
	for i := range levels - 1 {
		if i%2 == 0 {
			nodes = append(nodes, branch(f, fmt.Sprintf("b%02d", i)))
		} else {
			nodes = append(nodes, branch(f, "c", fmt.Sprintf("y%02d", 60-i)))
			nodes[i].Seps[0] = fmt.Sprintf("b%02d", i)
		}
	}
	return append(nodes, leaf("m=1"))
}

// A leaf ahead of the last, and a branch as the last, each under the digest that is its own.
func TestKindsOfNodes(t *testing.T) {
	for _, f := range frames() {
		for _, nodes := range [][]api.Node{
			{branch(f, "g")},
			{branch(f, "d"), branch(f, "g")},
			{branch(f, "d"), branch(f, "g"), branch(f, "k")},
			{leaf("e=1"), leaf("e=1")},
			{leaf("e=1"), branch(f, "g")},
			{leaf("e=1"), branch(f, "g"), leaf("e=1")},
			{branch(f, "g"), leaf("e=1"), leaf("e=1")},
			{branch(f, "g"), leaf("e=1"), branch(f, "d")},
			{{}, leaf("e=1")},
			{leaf("e=1"), {}},
		} {
			root, forms := linked(t, f, "e", nodes...)
			refused(t, "nodes of the wrong kinds", f, root, "e", pack.Join(forms...))
		}
	}
}

// Texts that are no plain forms, under the digests that such texts have.
func TestTextsThatAreNoForms(t *testing.T) {
	for _, f := range frames() {
		b := branch(f, "g")
		b.Kids[0].Page, b.Kids[1].Page = 2, 3
		paged, e := node.Pack(f, b)
		if e != api.OK {
			t.Fatal(e)
		}
		long := "\x01\x09"
		for i := range 9 {
			long += "\x01" + string(rune('a'+i)) + "\x80" + string(byteOf(f.Page/8>>7)) + strings.Repeat("v", f.Page/8)
		}
		for _, text := range []string{"", "\x00", "\x01", "\x02", "\x03\x00", "\x01\x00\x00", "\x01\x80\x00", "\x01\x01\x00\x00", "\x01\x02\x01e\x00\x01a\x00", "\x01\x02\x01e\x00\x01e\x00", "\x01\x01\x01e", "\x02\x00", "\x02\x01" + strings.Repeat("d", f.Width), paged, plain(t, f, b)[:5], plain(t, f, b) + "\x00", "\x01\x01\x01e\x011\x00", long, strings.Repeat("\x01", 100000)} {
			for _, tag := range []string{"leaf", "branch"} {
				root, e := sums.Digest(f.Width, tag, text)
				if e != api.OK {
					t.Fatal(e)
				}
				refused(t, "a text that is no form, alone", f, root, "e", pack.Join(text))
				refused(t, "a text that is no form, above a leaf", f, root, "e", pack.Join(text, plain(t, f, leaf("e=1"))))
				above := branch(f, "d", "g")
				above.Kids[1].Sum = root
				refused(t, "a text that is no form, below a branch", f, sumOf(t, f, above), "e", pack.Join(plain(t, f, above), text))
			}
		}
	}
}

func byteOf(n int) []byte { return []byte{byte(n)} }

// A proof that is cut short anywhere, and one that has something behind or ahead of it.
func TestCutShort(t *testing.T) {
	for _, f := range []api.Frame{small(), {Page: 1024, Width: 1}, {Page: 2048, Width: 5}} {
		root, key, that := tall(t, f)
		for at := range len(that) {
			refused(t, "cut short", f, root, key, that[:at])
		}
		for _, more := range []string{"\x00", "\x01", "\xff", that} {
			refused(t, "with something behind", f, root, key, that+more)
			refused(t, "with something ahead", f, root, key, more+that)
		}
		forms, _, _ := proof.Forms(f, root, key, that)
		refused(t, "the forms in no list", f, root, key, strings.Join(forms, ""))
		refused(t, "a list in a list", f, root, key, pack.Join(that))
		for i := range forms {
			refused(t, "without one of the forms", f, root, key, pack.Join(slices.Delete(slices.Clone(forms), i, i+1)...))
			refused(t, "with one form twice", f, root, key, pack.Join(slices.Insert(slices.Clone(forms), i, forms[i])...))
			refused(t, "with an empty form", f, root, key, pack.Join(slices.Insert(slices.Clone(forms), i, "")...))
		}
	}
}

// A byte is turned at each place: where a digest has all its bytes nothing is proved then.
func TestTurned(t *testing.T) {
	for _, f := range sizes() {
		t.Run(fmt.Sprint(f), func(t *testing.T) {
			t.Parallel()
			r := rand.New(rand.NewSource(153))
			root, key, that := tall(t, f)
			step := f.Page / 1024
			for at := 0; at < len(that); at += step {
				for _, by := range []byte{1, 0x80, byte(1 + r.Intn(255))} {
					b := []byte(that)
					b[at] ^= by
					if holds(t, "turned", f, root, key, string(b)) {
						isClash(t, f, root, key, that, string(b))
					}
				}
			}
			for at := range f.Width {
				other := root
				other[at] ^= 1 << (at % 8)
				refused(t, "another root", f, other, key, that)
			}
		})
	}
}

// Nodes of other trees: a proof of the same key in another tree, and one whose nodes are of two.
func TestOtherTrees(t *testing.T) {
	for _, f := range []api.Frame{small(), {Page: 4096, Width: 32}, {Page: 8192, Width: 6}} {
		pairs := longPairs(f, 60)
		tree := treeOf(t, grown(t, f, pairs...))
		root := tree.Root().Sum
		for i := range 20 {
			other := slices.Clone(pairs)
			other[3*i].Val = "another one"
			beside := treeOf(t, grown(t, f, other...))
			for _, key := range []string{other[3*i].Key, other[59-3*i].Key, longKey(f, 6*i)} {
				ours, theirs := proved(t, tree, key), proved(t, beside, key)
				refused(t, "another tree's proof", f, root, key, theirs)
				a, _, _ := proof.Forms(f, root, key, ours)
				b, _, _ := proof.Forms(f, beside.Root().Sum, key, theirs)
				for at := range len(a) + 1 {
					mixed := pack.Join(slices.Concat(a[:at], b[at:])...)
					if holds(t, "nodes of two trees", f, root, key, mixed) != (mixed == ours) {
						t.Errorf("%v: %.20q: the first %d nodes ours, the others theirs", f, key, at)
					}
				}
			}
		}
	}
}

// A leaf's form is told as a branch's, and the other way round, never: but for their tags they would have one digest.
func TestTagsAreApart(t *testing.T) {
	f := small()
	that := plain(t, f, leaf("a=1"))
	root, _ := sums.Digest(f.Width, "branch", that)
	refused(t, "a leaf under a branch's digest", f, root, "a", pack.Join(that))
	above := branch(f, "m")
	kid := sumOf(t, f, leaf("a=1"))
	above.Kids[0].Sum = kid
	wrong, _ := sums.Digest(f.Width, "leaf", plain(t, f, above))
	refused(t, "a branch under a leaf's digest", f, wrong, "a", pack.Join(plain(t, f, above), that))
	refused(t, "the leaf under the digest of the list", f, sumOf(t, f, above), "a", pack.Join(that))
}

// Bytes by chance, and pieces of proofs put together by chance: whatever they are, the reading ends, and says what the words say.
func TestBytesByChance(t *testing.T) {
	for i, f := range sizes() {
		t.Run(fmt.Sprint(f), func(t *testing.T) {
			t.Parallel()
			r := rand.New(rand.NewSource(int64(154 + i)))
			root, key, that := tall(t, f)
			forms, _, _ := proof.Forms(f, root, key, that)
			for range 3000 {
				bytes := make([]byte, r.Intn(200))
				r.Read(bytes)
				texts := slices.Clone(forms)
				at := r.Intn(len(texts))
				switch r.Intn(4) {
				case 0:
					texts[at] = string(bytes)
				case 1:
					texts = append(texts, string(bytes))
				case 2:
					texts[at] = texts[at][:r.Intn(len(texts[at]))] + string(bytes)
				case 3:
					texts[at] = texts[r.Intn(len(texts))]
				}
				if joined := pack.Join(texts...); joined != that && holds(t, "pieces by chance", f, root, key, joined) {
					isClash(t, f, root, key, that, joined)
				}
				refused(t, "bytes by chance", f, root, key, string(bytes))
				if len(bytes) > 0 {
					bytes[0] %= 4
				}
				refused(t, "bytes by chance, as a list", f, root, key, string(bytes))
			}
		})
	}
}
