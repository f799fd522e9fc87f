package proof_test

import (
	"math"
	"os"
	"runtime/debug"
	"slices"
	"strings"
	"testing"

	"heartwood/api"
	"heartwood/node"
	"heartwood/pack"
	"heartwood/proof"
)

// What the tests make is gone at once, and there is much of it: most of their time would go to clearing it away.
func TestMain(m *testing.M) {
	debug.SetGCPercent(400)
	os.Exit(m.Run())
}

// notAsked complains, if what may not be asked is not told as such, whatever the bytes are.
func notAsked(t *testing.T, what string, f api.Frame, root api.Digest, key string, bytes ...string) {
	t.Helper()
	for _, s := range bytes {
		if a, e := proof.Read(f, root, key, s); a != (api.Answer{}) || e != api.ErrArg {
			t.Errorf("%s: Read(%v, .., %.20q, %.20q): %v %v", what, f, key, s, a, e)
		}
		if l, kids, e := proof.Forms(f, root, key, s); l != nil || kids != nil || e != api.ErrArg {
			t.Errorf("%s: Forms(%v, .., %.20q, %.20q): %v %v %v", what, f, key, s, l, kids, e)
		}
		for _, a := range []api.Answer{{}, {Found: true}, {Found: true, Val: "1"}} {
			if proof.Verify(f, root, key, a, s) {
				t.Errorf("%s: Verify(%v, .., %.20q, %v, %.20q)", what, f, key, a, s)
			}
		}
	}
}

// Frames, roots and keys that may not be, ahead of bytes that prove nothing, and where the bytes would prove something.
func TestWhatMayNotBeAsked(t *testing.T) {
	f := small()
	root, forms := linked(t, f, "e", branch(f, "d"), leaf("e=1"))
	good := pack.Join(forms...)
	for _, off := range wrongFrames() {
		notAsked(t, "the frame", off, root, "e", good, "", "\x00", strings.Repeat("\xff", 1000))
		notAsked(t, "the frame", off, api.Digest{}, "", good, "")
	}
	for _, f := range frames() {
		root, forms := linked(t, f, "e", branch(f, "d"), leaf("e=1"))
		good := pack.Join(forms...)
		taken(t, "all is well", f, root, "e", good, api.Answer{Found: true, Val: "1"})
		for at := f.Width; at < len(root); at++ {
			off := root
			off[at] = 1
			notAsked(t, "the root", f, off, "e", good, "", "\x00")
		}
		notAsked(t, "no key", f, root, "", good, "", "\x00")
		notAsked(t, "a long key", f, root, strings.Repeat("e", f.Page/16+1), good, "", "\x00")
		notAsked(t, "a huge key", f, root, strings.Repeat("e", 1<<20), good, "", "\x00")
		for _, key := range []string{strings.Repeat("e", f.Page/16), "\x00", "\xff"} {
			if _, e := proof.Read(f, root, key, ""); e != api.ErrProof {
				t.Errorf("%v: Read of a key that may be: %v", f, e)
			}
		}
		taken(t, "a key as long as may be", f, root, strings.Repeat("e", f.Page/16), good, api.Answer{})
	}
	// In another frame that may be it is no proof, but where pages alone are longer.
	for _, off := range []api.Frame{{Page: 1024, Width: 31}, {Page: 8192, Width: 1}} {
		var cut api.Digest
		copy(cut[:off.Width], root[:])
		refused(t, "another width", off, cut, "e", good)
	}
	taken(t, "a longer page", api.Frame{Page: 8192, Width: 32}, root, "e", good, api.Answer{Found: true, Val: "1"})
}

// A proof of a long page is none where pages are short: its keys, values and nodes may not be there.
func TestShorterPages(t *testing.T) {
	for _, long := range []api.Frame{{Page: 2048, Width: 32}, {Page: 4096, Width: 32}, {Page: 8192, Width: 32}} {
		short := api.Frame{Page: long.Page / 2, Width: 32}
		for what, n := range map[string]api.Node{
			"a long key":   leaf("e=1", strings.Repeat("k", long.Page/16)+"=1"),
			"a long value": leaf("e=1", "f="+strings.Repeat("v", long.Page/8)),
			"a large leaf": leaf("e=1", "f="+strings.Repeat("v", short.Page/8), "g="+strings.Repeat("v", short.Page/8), "h="+strings.Repeat("v", short.Page/8), "i="+strings.Repeat("v", short.Page/8), "j="+strings.Repeat("v", short.Page/8), "k="+strings.Repeat("v", short.Page/8), "l="+strings.Repeat("v", short.Page/8), "m="+strings.Repeat("v", short.Page/8)),
		} {
			root, forms := linked(t, long, "e", n)
			taken(t, what, long, root, "e", pack.Join(forms...), api.Answer{Found: true, Val: "1"})
			refused(t, what, short, root, "e", pack.Join(forms...))
		}
	}
}

// Verify of the right answer, and of wrong ones.
func TestVerify(t *testing.T) {
	for _, f := range frames() {
		tree := treeOf(t, grown(t, f, api.Pair{Key: "a", Val: "1"}, api.Pair{Key: "c"}, api.Pair{Key: "d", Val: strings.Repeat("v", f.Page/8)}))
		root := tree.Root().Sum
		long := strings.Repeat("v", f.Page/8)
		for _, c := range []struct {
			key   string
			right api.Answer
			wrong []api.Answer
		}{
			{"a", api.Answer{Found: true, Val: "1"}, []api.Answer{{}, {Found: true}, {Val: "1"}, {Found: true, Val: "2"}, {Found: true, Val: "1\x00"}, {Found: true, Val: long}}},
			{"b", api.Answer{}, []api.Answer{{Found: true}, {Val: "1"}, {Found: true, Val: "1"}, {Val: "\x00"}}},
			{"c", api.Answer{Found: true}, []api.Answer{{}, {Val: "1"}, {Found: true, Val: "1"}}},
			{"d", api.Answer{Found: true, Val: long}, []api.Answer{{}, {Found: true}, {Val: long}, {Found: true, Val: long[1:]}, {Found: true, Val: long + "v"}}},
			{"e", api.Answer{}, []api.Answer{{Found: true}, {Val: long}}},
		} {
			that := proved(t, tree, c.key)
			if !proof.Verify(f, root, c.key, c.right, that) {
				t.Errorf("%v: %q: the right answer is not verified", f, c.key)
			}
			for _, a := range c.wrong {
				if proof.Verify(f, root, c.key, a, that) {
					t.Errorf("%v: %q: %v is verified", f, c.key, a)
				}
			}
			other := root
			other[0] ^= 1
			if proof.Verify(f, other, c.key, c.right, that) || proof.Verify(f, root, c.key, c.right, that+"\x00") || proof.Verify(f, root, c.key, api.Answer{}, "") {
				t.Errorf("%v: %q: verified by what is no proof", f, c.key)
			}
		}
	}
}

// Forms of proofs made by hand: the texts, and the kids that are gone to, the first one and the last one among them.
func TestFormsAndKids(t *testing.T) {
	for _, f := range frames() {
		for _, c := range []struct {
			key   string
			kids  []int
			nodes []api.Node
		}{
			{"e", nil, []api.Node{leaf("e=1")}},
			{"e", nil, []api.Node{{}}},
			{"b", []int{0}, []api.Node{branch(f, "c", "g"), leaf("a=1")}},
			{"c", []int{1}, []api.Node{branch(f, "c", "g"), leaf("d=1")}},
			{"f\xff", []int{1}, []api.Node{branch(f, "c", "g"), leaf("d=1")}},
			{"g", []int{2}, []api.Node{branch(f, "c", "g"), leaf("x=1")}},
			{"k", []int{1, 0, 3}, []api.Node{branch(f, "c", "t"), branch(f, "n"), branch(f, "d", "e", "f"), leaf("g=1")}},
			{"m", slices.Repeat([]int{1}, 32), chain(f, 33)},
		} {
			root, forms := linked(t, f, c.key, c.nodes...)
			that := pack.Join(forms...)
			got, kids, e := proof.Forms(f, root, c.key, that)
			if !slices.Equal(got, forms) || !slices.Equal(kids, c.kids) || e != api.OK {
				t.Errorf("%v: Forms of %.20q: %x, %v, %v", f, c.key, got, kids, e)
			}
			// They are its own: what is done with them is nobody's affair.
			for i := range got[:cap(got)] {
				got[:cap(got)][i] = "over"
			}
			for i := range kids[:cap(kids)] {
				kids[:cap(kids)][i] = 99
			}
			holds(t, "behind that", f, root, c.key, that)
		}
	}
}

func TestMost(t *testing.T) {
	for _, f := range frames() {
		for _, height := range []int{math.MinInt, -1000, -1, 0, 1, 2, 3, 17, 32, 33, 34, 35, 64, 1 << 40, math.MaxInt/1024 + 1, math.MaxInt} {
			want := f.Page * max(height, 1)
			if height > mostLevels {
				want = 0
			}
			if got := proof.Most(f, height); got != want {
				t.Errorf("Most(%v, %d): %d", f, height, got)
			}
		}
	}
	for _, f := range wrongFrames() {
		for _, height := range []int{math.MinInt, -1, 0, 1, 33, 34, math.MaxInt} {
			if got := proof.Most(f, height); got != 0 {
				t.Errorf("Most(%v, %d): %d", f, height, got)
			}
		}
	}
}

// The longest proof that there can be: 33 nodes that have all their room.
func TestTheLongestProof(t *testing.T) {
	for _, f := range frames() {
		var nodes []api.Node
		for i := range mostLevels - 1 {
			nodes = append(nodes, filled(f, i))
		}
		last := leaf("m=1")
		for i := 0; ; i++ {
			more := api.Pair{Key: "m" + string(rune('a'+i)), Val: strings.Repeat("v", f.Page/8)}
			if node.Size(f, api.Node{Pairs: append(slices.Clone(last.Pairs), more)}) > f.Room() {
				break
			}
			last.Pairs = append(last.Pairs, more)
		}
		tree, _ := row(t, f, "m", append(nodes, last)...)
		that := proved(t, tree, "m")
		taken(t, "the longest", f, tree.Root().Sum, "m", that, api.Answer{Found: true, Val: "1"})
		if most := proof.Most(f, mostLevels); len(that) > most || len(that) < most/2 {
			t.Errorf("%v: %d bytes, and %d at most", f, len(that), most)
		}
	}
}

// filled is a branch around m with as many long separators as it has room for, all of them nearer to m the lower it stands.
func filled(f api.Frame, level int) api.Node {
	n := api.Node{}
	for i := 0; ; i++ {
		sep := "b" + string(rune('A'+level)) + string(rune('A'+i/26)) + string(rune('A'+i%26))
		more := branch(f, append(slices.Clone(n.Seps), sep+strings.Repeat("s", f.Page/16-len(sep)))...)
		if node.Size(f, more) > f.Room() {
			return n
		}
		n = more
	}
}
