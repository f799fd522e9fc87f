package span_test

import (
	"os"
	"runtime/debug"
	"slices"
	"strings"
	"testing"

	"heartwood/api"
	"heartwood/node"
	"heartwood/pack"
	"heartwood/span"
)

// What the tests make is gone at once, and there is much of it: most of their time would go to clearing it away.
func TestMain(m *testing.M) {
	debug.SetGCPercent(400)
	os.Exit(m.Run())
}

// notAsked complains, if what may not be asked is not told as such, whatever the bytes are.
func notAsked(t *testing.T, what string, f api.Frame, root api.Digest, r keyRange, bytes ...string) {
	t.Helper()
	for _, s := range bytes {
		if l, e := span.Read(f, root, r.lo, r.hi, s); l != nil || e != api.ErrArg {
			t.Errorf("%s: Read(%v, .., %.20q, %.20q): %v %v", what, f, r, s, l, e)
		}
		for _, l := range [][]api.Pair{nil, {}, leaf("e=1").Pairs} {
			if span.Verify(f, root, r.lo, r.hi, l, s) {
				t.Errorf("%s: Verify(%v, .., %.20q, %v, %.20q)", what, f, r, l, s)
			}
		}
	}
}

// Frames and roots that may not be, ahead of bytes that prove nothing, and where the bytes would prove something.
func TestWhatMayNotBeAsked(t *testing.T) {
	w := func(f api.Frame) *twig {
		return with(branch(f, "d", "g"), 0, alone(leaf("a=1")), alone(leaf("e=1")), alone(leaf("g=1")))
	}
	all := keyRange{"", ""}
	root, forms := linked(t, small(), w(small()))
	good := pack.Join(forms...)
	for _, off := range wrongFrames() {
		for _, r := range []keyRange{all, {"b", "a"}, {strings.Repeat("a", 10000), ""}} {
			notAsked(t, "the frame", off, root, r, good, "", "\x00", strings.Repeat("\xff", 1000), pack.Join("\x01\x00"))
			notAsked(t, "the frame", off, api.Digest{}, r, good, "")
		}
		for _, s := range []string{good, "", "\x00", pack.Join("\x01\x00"), strings.Repeat("\xff", 1000)} {
			if l, e := span.Forms(off, s); l != nil || e != api.ErrArg {
				t.Errorf("Forms(%v, %.20q): %v %v", off, s, l, e)
			}
		}
	}
	for _, f := range frames() {
		root, forms := linked(t, f, w(f))
		good := pack.Join(forms...)
		taken(t, "all is well", f, root, all, good, leaf("a=1", "e=1", "g=1").Pairs)
		empty, _ := node.Empty(f)
		for at := f.Width; at < len(root); at++ {
			off := root
			off[at] = 1
			notAsked(t, "the root", f, off, all, good, "", "\x00")
			off = empty
			off[at] = 0xff
			notAsked(t, "the root", f, off, all, pack.Join("\x01\x00"))
		}
	}
	// In another frame that may be it is no proof, but where pages alone are longer.
	root, forms = linked(t, api.Frame{Page: 1024, Width: 32}, w(api.Frame{Page: 1024, Width: 32}))
	good = pack.Join(forms...)
	for _, off := range []api.Frame{{Page: 1024, Width: 31}, {Page: 8192, Width: 1}} {
		var cut api.Digest
		copy(cut[:off.Width], root[:])
		refused(t, "another width", off, cut, all, good)
	}
	taken(t, "a longer page", api.Frame{Page: 8192, Width: 32}, root, all, good, leaf("a=1", "e=1", "g=1").Pairs)
}

// A proof of a long page is none where pages are short: its keys, values and nodes may not be there.
func TestShorterPages(t *testing.T) {
	all := keyRange{"", ""}
	for _, long := range []api.Frame{{Page: 2048, Width: 32}, {Page: 4096, Width: 32}, {Page: 8192, Width: 32}} {
		short := api.Frame{Page: long.Page / 2, Width: 32}
		v := strings.Repeat("v", short.Page/8)
		for what, n := range map[string]api.Node{
			"a long key":   leaf("e=1", strings.Repeat("k", long.Page/16)+"=1"),
			"a long value": leaf("e=1", "f="+strings.Repeat("v", long.Page/8)),
			"a large leaf": leaf("e=1", "f="+v, "g="+v, "h="+v, "i="+v, "j="+v, "k="+v, "l="+v, "m="+v),
		} {
			root, forms := linked(t, long, alone(n))
			taken(t, what, long, root, all, pack.Join(forms...), n.Pairs)
			refused(t, what, short, root, all, pack.Join(forms...))
		}
	}
}

// Verify of the right pairs, and of wrong ones.
func TestVerify(t *testing.T) {
	t.Parallel()
	for _, f := range frames() {
		pairs := longPairs(f, 30)
		tree := treeOf(t, grown(t, f, pairs...))
		root := tree.Root().Sum
		for _, r := range []keyRange{{"", ""}, {longKey(f, 11), longKey(f, 31)}, {longKey(f, 12), longKey(f, 18)}, {longKey(f, 12), longKey(f, 14)}} {
			that, right := proved(t, tree, r), r.of(pairs)
			verify := func(l []api.Pair, proof string) bool { return span.Verify(f, root, r.lo, r.hi, l, proof) }
			if !verify(right, that) || !verify(append(make([]api.Pair, 0, 99), right...), that) {
				t.Errorf("%v: %.20q: the right pairs are not verified", f, r)
			}
			other := func(at int, p api.Pair) []api.Pair { l := slices.Clone(right); l[at] = p; return l }
			for at, p := range right {
				for what, l := range map[string][]api.Pair{
					"one less":         slices.Delete(slices.Clone(right), at, at+1),
					"one twice":        slices.Insert(slices.Clone(right), at, p),
					"another one more": slices.Insert(slices.Clone(right), at, api.Pair{Key: p.Key[1:], Val: p.Val}),
					"another value":    other(at, api.Pair{Key: p.Key, Val: p.Val + "\x00"}),
					"no value":         other(at, api.Pair{Key: p.Key}),
					"another key":      other(at, api.Pair{Key: p.Key + "\x00", Val: p.Val}),
					"no pair":          other(at, api.Pair{}),
					"those ahead":      right[:at],
				} {
					if verify(l, that) {
						t.Errorf("%v: %.20q: %s at %d is verified", f, r, what, at)
					}
				}
				if at > 0 {
					swapped := other(at, right[at-1])
					swapped[at-1] = p
					if verify(swapped, that) {
						t.Errorf("%v: %.20q: another order at %d is verified", f, r, at)
					}
				}
			}
			if verify(nil, that) || verify(append(slices.Clone(right), api.Pair{Key: "z"}), that) || verify(pairs, that) != (len(right) == len(pairs)) {
				t.Errorf("%v: %.20q: none, one more or all are verified", f, r)
			}
			if wrong := root; true {
				wrong[0] ^= 1
				if span.Verify(f, wrong, r.lo, r.hi, right, that) || verify(right, that+"\x00") || verify(right, "") || verify(nil, "") {
					t.Errorf("%v: %.20q: verified by what is no proof", f, r)
				}
			}
		}
		none := keyRange{longKey(f, 12), longKey(f, 13)}
		for _, l := range [][]api.Pair{nil, {}, make([]api.Pair, 0, 5)} {
			if !span.Verify(f, root, none.lo, none.hi, l, proved(t, tree, none)) {
				t.Errorf("%v: that there are none is not verified", f)
			}
		}
	}
}

// Forms of lists that need not prove anything, and of what is no list.
func TestForms(t *testing.T) {
	for _, f := range frames() {
		a, b, empty := plain(t, f, leaf("a=1")), plain(t, f, branch(f, "m", "x")), "\x01\x00"
		for _, l := range [][]string{{a}, {b}, {empty}, {a, a}, {b, a}, {a, b}, {b, b, b}, {empty, empty}, {empty, a, b, a, empty}, slices.Repeat([]string{a}, 1000)} {
			that := pack.Join(l...)
			got, e := span.Forms(f, that)
			if !slices.Equal(got, l) || e != api.OK {
				t.Errorf("%v: Forms of %d texts: %d texts, %v", f, len(l), len(got), e)
			}
			isListed(t, "a list", f, that)
			isListed(t, "a list, and a byte", f, that+"\x00")
			isListed(t, "a list, cut short", f, that[:len(that)-1])
			for i := range min(len(l), 5) {
				for _, no := range []string{"", "\x00", "\x01", "\x03\x00", a[:len(a)-1], b + "\x00"} {
					if got, e := span.Forms(f, pack.Join(slices.Replace(slices.Clone(l), i, i+1, no)...)); got != nil || e != api.ErrProof {
						t.Errorf("%v: Forms with %x at %d: %v %v", f, no, i, got, e)
					}
				}
			}
		}
		for _, s := range []string{"", "\x00", "\x00\x00", "\x01", "\x02" + pack.Join(a)[1:], "\x81\x00" + pack.Join(a)[1:], a, b, empty, "\x01\x00", "\x01\x01x", strings.Repeat("\xff", 5000), strings.Repeat("\x00", 5000)} {
			if got, e := span.Forms(f, s); got != nil || e != api.ErrProof {
				t.Errorf("%v: Forms of %.20q: %v %v", f, s, got, e)
			}
		}
	}
}

// What is answered is its own: what is done with it is nobody's affair, and what was handed in is as it was.
func TestMemoryOfItsOwn(t *testing.T) {
	for _, f := range sizes() {
		pairs := longPairs(f, 20)
		tree := treeOf(t, grown(t, f, pairs...))
		r := keyRange{longKey(f, 5), longKey(f, 31)}
		that := proved(t, tree, r)
		was := strings.Clone(that)
		for range 2 {
			l, e := span.Read(f, tree.Root().Sum, r.lo, r.hi, that)
			if e != api.OK || !slices.Equal(l, r.of(pairs)) {
				t.Fatalf("%v: %v %d", f, e, len(l))
			}
			for i := range l[:cap(l)] {
				l[:cap(l)][i] = api.Pair{Key: "over", Val: "written"}
			}
			forms, e := span.Forms(f, that)
			if e != api.OK || pack.Join(forms...) != was {
				t.Fatalf("%v: %v", f, e)
			}
			for i := range forms[:cap(forms)] {
				forms[:cap(forms)][i] = "over"
			}
		}
		right := append(r.of(pairs), make([]api.Pair, 9)...)
		kept := slices.Clone(right)
		many := len(right) - 9
		if !span.Verify(f, tree.Root().Sum, r.lo, r.hi, right[:many], that) || !slices.Equal(right, kept) || that != was {
			t.Errorf("%v: what was handed in is another one", f)
		}
	}
}

// A tree over an Edit that goes on: the Tree that was made stays at what it was, and so do its proofs.
func TestTreesThatGoOn(t *testing.T) {
	f := api.Frame{Page: 1024, Width: 32}
	x := grown(t, f, longPairs(f, 12)...)
	tree := treeOf(t, x.Copy())
	r := keyRange{longKey(f, 3), longKey(f, 15)}
	was := proved(t, tree, r)
	if _, e := x.Put(longKey(f, 5), "another one"); e != api.OK {
		t.Fatal(e)
	}
	now := treeOf(t, x)
	if said := proved(t, tree, r); said != was {
		t.Errorf("the proof is another one: %x", said)
	}
	pairs := longPairs(f, 12)
	pairs[2].Val = "another one"
	taken(t, "the tree now", f, now.Root().Sum, r, proved(t, now, r), r.of(pairs))
	refused(t, "the tree that was", f, now.Root().Sum, r, was)
}
