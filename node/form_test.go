package node_test

import (
	"encoding/binary"
	"math"
	"math/rand"
	"slices"
	"strings"
	"testing"

	"heartwood/api"
	"heartwood/node"
)

// free answers the free number at the beginning of s and what is behind it, by the library's reader.
func free(s string, most int) (n int, rest string, ok bool) {
	x, length := binary.Uvarint([]byte(s))
	if length < 1 || x > uint64(most) || length > 1 && s[length-1] == 0 {
		return 0, "", false
	}
	return int(x), s[length:], true
}

// text answers the text at the beginning of s and what is behind it.
func text(s string) (x, rest string, ok bool) {
	n, rest, ok := free(s, len(s))
	if !ok || n > len(rest) {
		return "", "", false
	}
	return rest[:n], rest[n:], true
}

// parsed is another reader: it answers the node whose form s is, if there is one.
func parsed(f api.Frame, s string, paged bool) (api.Node, bool) {
	n, ok := api.Node{}, false
	if strings.HasPrefix(s, "\x01") {
		n.Pairs, ok = pairs(s[1:])
	}
	if strings.HasPrefix(s, "\x02") {
		n, ok = kids(f, s[1:], paged)
	}
	if !ok {
		return api.Node{}, false
	}
	_, pack, plain := due(f, n)
	if paged && pack != api.OK || plain != api.OK {
		return api.Node{}, false
	}
	return n, true
}

func pairs(s string) (l []api.Pair, ok bool) {
	n, s, ok := free(s, len(s))
	for ; n > 0 && ok; n-- {
		var p api.Pair
		if p.Key, s, ok = text(s); ok {
			p.Val, s, ok = text(s)
		}
		l = append(l, p)
	}
	return l, ok && s == ""
}

func kids(f api.Frame, s string, paged bool) (b api.Node, ok bool) {
	n, s, ok := free(s, len(s))
	for i := 0; i < n && ok; i++ {
		var sep string
		if i > 0 {
			sep, s, ok = text(s)
			b.Seps = append(b.Seps, sep)
		}
		var k api.Kid
		if paged && len(s) >= 4 {
			k.Page, s = binary.BigEndian.Uint32([]byte(s[:4])), s[4:]
		} else if paged {
			return b, false
		}
		if len(s) < f.Width {
			return b, false
		}
		copy(k.Sum[:], s[:f.Width])
		s = s[f.Width:]
		b.Kids = append(b.Kids, k)
	}
	return b, ok && s == "" && len(b.Kids) > 0
}

// reads complains, if a call that reads does not answer so, or if what it answers shares memory with another answer.
func reads(t *testing.T, what string, f api.Frame, s string, call func(f api.Frame, s string) (api.Node, api.Errno), want api.Node, code api.Errno) {
	t.Helper()
	n, e := call(f, s)
	if e != code || !alike(n, want) {
		t.Fatalf("%s: %v, and not %v, of %x..: %s", what, e, code, s[:min(len(s), 100)], brief(f, n))
	}
	scribble(n)
	if again, e := call(f, s); e != code || !alike(again, want) {
		t.Fatalf("%s, a second time: %v: %s", what, e, brief(f, again))
	}
}

// scribble writes over all of a node's lists, spare room included.
func scribble(n api.Node) {
	for i := range n.Pairs[:cap(n.Pairs)] {
		n.Pairs[:cap(n.Pairs)][i] = api.Pair{Key: "over", Val: "written"}
	}
	for i := range n.Seps[:cap(n.Seps)] {
		n.Seps[:cap(n.Seps)][i] = "overwritten"
	}
	for i := range n.Kids[:cap(n.Kids)] {
		n.Kids[:cap(n.Kids)][i] = api.Kid{Page: math.MaxUint32, Sum: digest(32, 99)}
	}
}

// noForm complains, if bytes are not refused as a page form, or as a plain one. (A page form that is spoilt may be a plain form by chance.)
func noForm(t *testing.T, what string, f api.Frame, paged bool, s string) {
	t.Helper()
	if paged {
		reads(t, "Unpack of "+what, f, s, node.Unpack, api.Node{}, api.ErrBody)
	} else {
		reads(t, "Read of "+what, f, s, node.Read, api.Node{}, api.ErrBody)
	}
	likewise(t, what, f, s)
}

// neither complains, if bytes are not refused as both.
func neither(t *testing.T, what string, f api.Frame, s string) {
	t.Helper()
	noForm(t, what, f, true, s)
	noForm(t, what, f, false, s)
}

// likewise complains, if Unpack and Read do not answer what the other reader does; it tells whether one of them took it.
func likewise(t *testing.T, what string, f api.Frame, s string) (took bool) {
	t.Helper()
	for _, x := range []struct {
		paged bool
		call  func(f api.Frame, s string) (api.Node, api.Errno)
	}{{true, node.Unpack}, {false, node.Read}} {
		n, ok := parsed(f, s, x.paged)
		code := api.ErrBody
		if ok {
			code = api.OK
		}
		reads(t, what, f, s, x.call, n, code)
		took = took || ok
	}
	return took
}

// 7.3 and 7.4: each form is that of the chapter's words (holds asks that), and is read as the node that it was laid of.
func TestFormsAreRead(t *testing.T) {
	t.Parallel()
	for _, f := range frames() {
		for _, n := range nodes(f) {
			if len(n.Pairs)+len(n.Kids) > 0 {
				reads(t, "Unpack", f, laid(f, n, true), node.Unpack, n, api.OK)
			}
			reads(t, "Read", f, laid(f, n, false), node.Read, unpaged(n), api.OK)
		}
	}
}

// The empty leaf has a plain form and no page form.
func TestEmptyLeaf(t *testing.T) {
	for _, f := range frames() {
		if s, e := node.Pack(f, api.Node{}); s != "" || e != api.ErrNode {
			t.Errorf("Pack: %x, %v", s, e)
		}
		if s, e := node.Plain(f, api.Node{}); s != "\x01\x00" || e != api.OK {
			t.Errorf("Plain: %x, %v", s, e)
		}
		reads(t, "Unpack", f, "\x01\x00", node.Unpack, api.Node{}, api.ErrBody)
		reads(t, "Read", f, "\x01\x00", node.Read, api.Node{}, api.OK)
	}
}

// A frame that may not be is told whatever the bytes are.
func TestReadingInFramesThatMayNotBe(t *testing.T) {
	f := few()[0]
	for _, off := range odd() {
		for _, s := range []string{"", "\x01", "\x01\x00", "\x03", laid(f, leaf("a", "x"), true), laid(f, branch(f, "m"), true), laid(f, branch(f, "m"), false), strings.Repeat("\x01", 10000)} {
			reads(t, "Unpack", off, s, node.Unpack, api.Node{}, api.ErrArg)
			reads(t, "Read", off, s, node.Read, api.Node{}, api.ErrArg)
		}
	}
}

// Sizes of just the room and of one more. A branch's plain form is shorter than its page form, which is the one that counts.
func TestSizesAtTheRoom(t *testing.T) {
	t.Parallel()
	for _, f := range frames() {
		for _, more := range []int{0, 1, 2, 40} {
			want := api.OK
			if more > 0 {
				want = api.ErrRoom
			}
			for _, n := range []api.Node{leafOf(room(f) + more), branchOf(f, room(f)+more)} {
				_, pack := node.Pack(f, n)
				_, plain := node.Plain(f, n)
				_, sum := node.Sum(f, n)
				if pack != want || plain != want || sum != want || node.Size(f, n) != room(f)+more || node.Check(f, n) != api.OK {
					t.Fatalf("%d above the room: %v, %v, %v: %s", more, pack, plain, sum, brief(f, n))
				}
				if more > 0 {
					noForm(t, "a node without room", f, true, laid(f, n, true))
					noForm(t, "a node without room", f, false, laid(f, n, false))
				}
			}
		}
		if n := branchOf(f, room(f)+1); len(laid(f, n, false)) > room(f) {
			t.Fatal("the plain form alone should have room:", brief(f, n))
		}
	}
}

// The pages that kids may have, and may not, each kid by itself; they count in the page form alone.
func TestPagesOfKids(t *testing.T) {
	t.Parallel()
	for _, f := range frames() {
		for page, want := range map[uint32]api.Errno{0: api.ErrChild, 1: api.ErrChild, 2: api.OK, 3: api.OK, 65536: api.OK, 1<<31 - 1: api.OK, 1 << 31: api.ErrChild, 1<<31 + 2: api.ErrChild, math.MaxUint32: api.ErrChild} {
			for kid := range 3 {
				n := branch(f, "a", "b")
				sum, _ := node.Sum(f, n)
				size := node.Size(f, n)
				n.Kids[kid].Page = page
				if s, e := node.Pack(f, n); e != want || (s == "") != (want != api.OK) {
					t.Fatalf("Pack with the page %d: %x, %v", page, s, e)
				}
				holds(t, "a page", f, n)
				if d, e := node.Sum(f, n); e != api.OK || d != sum || node.Size(f, n) != size {
					t.Fatalf("the page %d changes the digest or the size: %v", page, e)
				}
				if want == api.OK {
					reads(t, "a page", f, laid(f, n, true), node.Unpack, n, api.OK)
				} else {
					reads(t, "a page that may not be", f, laid(f, n, true), node.Unpack, api.Node{}, api.ErrBody)
				}
			}
		}
	}
}

// Where more than one error would be due: the frame, the shape, the room, the pages.
func TestErrorsInOrder(t *testing.T) {
	for _, f := range few() {
		astray := func(n *api.Node) { n.Kids[1].Page = 1 }
		fall := func(n *api.Node) { n.Seps[0], n.Seps[1] = n.Seps[1], n.Seps[0] }
		all := with(with(branchOf(f, 3*f.Page), astray), fall)
		for _, off := range odd() {
			refused(t, "all is wrong", off, all, api.ErrArg)
		}
		refused(t, "a frame that may be", f, all, api.ErrNode)
		n := with(branchOf(f, room(f)+1), astray)
		_, pack := node.Pack(f, n)
		_, plain := node.Plain(f, n)
		if pack != api.ErrRoom || plain != api.ErrRoom {
			t.Errorf("no room, and a page that may not be: %v, %v", pack, plain)
		}
		n = with(branchOf(f, room(f)), astray)
		_, pack = node.Pack(f, n)
		_, plain = node.Plain(f, n)
		if pack != api.ErrChild || plain != api.OK {
			t.Errorf("a page that may not be: %v, %v", pack, plain)
		}
		refused(t, "a large leaf whose keys are alike", f, with(leafOf(3*f.Page), func(n *api.Node) { n.Pairs[1].Key = n.Pairs[0].Key }), api.ErrNode)
	}
}

// Forms cut off at each place (the long ones in the greater frames at some), and with bytes behind.
func TestFormsCutOffAndDrawnOut(t *testing.T) {
	t.Parallel()
	for _, f := range few() {
		for _, n := range nodes(f) {
			for _, paged := range []bool{true, false} {
				s := laid(f, n, paged)
				for at := range s {
					if f.Page == 1024 || at < 100 || at%61 == 0 || at > len(s)-50 {
						noForm(t, "a form that is cut off", f, paged, s[:at])
					}
				}
				for _, more := range []string{"\x00", "\x01", "\xff", "a", "\x00\x00", "\x01\x00", s} {
					noForm(t, "a form with bytes behind", f, paged, s+more)
				}
			}
		}
	}
}

// Each number of a form in a byte more than it needs.
func TestNumbersInMoreBytesThanTheyNeed(t *testing.T) {
	t.Parallel()
	for _, f := range few() {
		for _, n := range nodes(f) {
			for at := range min(numbers(n), 300) {
				for _, paged := range []bool{true, false} {
					s := spread(f, n, paged, at)
					if len(s) != len(laid(f, n, paged))+1 {
						t.Fatal("no number was spread")
					}
					noForm(t, "a number in more bytes", f, paged, s)
				}
			}
		}
	}
	f := few()[0]
	for _, s := range []string{"\x01\x81\x00\x01a\x00", "\x01\x81\x80\x00\x01a\x00", "\x01\x80\x00", "\x01\x01\x81\x00a\x00", "\x01\x01\x01a\x80\x00", "\x01\xff\xff\xff\xff\xff\xff\xff\xff\xff\x01", "\x01\x01\xff\xff\xff\xff\xff\xff\xff\xff\xff\x01a", "\x02\xff\xff\xff\xff\xff\xff\xff\xff\xff\x01", "\x01\xff\xff\xff\xff\xff\xff\xff\xff\xff\xff"} {
		neither(t, "a number", f, s)
	}
}

// Another kind ahead of the same bytes.
func TestOtherKinds(t *testing.T) {
	t.Parallel()
	for _, f := range few() {
		for _, n := range nodes(f) {
			for _, s := range []string{laid(f, n, true), laid(f, n, false)} {
				for kind := range 256 {
					if kind != 1 && kind != 2 {
						neither(t, "another kind", f, string([]byte{byte(kind)})+s[1:])
					}
				}
				likewise(t, "the other kind", f, string([]byte{3 - s[0]})+s[1:])
			}
		}
	}
	neither(t, "nothing", few()[0], "")
}

// Bytes of nodes that are not well shaped, that have too few kids, or lists that do not fit each other.
func TestFormsOfNodesThatAreNotWellShaped(t *testing.T) {
	t.Parallel()
	for _, f := range frames() {
		for what, n := range wrong(f) {
			if len(n.Pairs) > 0 && len(n.Kids)+len(n.Seps) > 0 || len(n.Seps) > 0 && len(n.Seps) >= len(n.Kids) {
				continue // its bytes would be those of another node
			}
			noForm(t, what, f, true, laid(f, n, true))
			noForm(t, what, f, false, laid(f, n, false))
		}
		neither(t, "no kid", f, "\x02\x00")
		for _, n := range large(f) {
			noForm(t, "a large node", f, true, laid(f, n, true))
			noForm(t, "a large node", f, false, laid(f, n, false))
		}
	}
}

// All short strings of a few bytes that matter, held against the other reader.
func TestShortStrings(t *testing.T) {
	t.Parallel()
	f := api.Frame{Page: 1024, Width: 1}
	took := 0
	var grow func(s string)
	grow = func(s string) {
		if likewise(t, "a short string", f, s) {
			took++
		}
		if len(s) == 7 {
			return
		}
		for _, b := range []byte("\x00\x01\x02\x03\x80") {
			grow(s + string([]byte{b}))
		}
	}
	grow("\x01")
	grow("\x02")
	if took < 100 {
		t.Error("too few were taken:", took)
	}
}

// Bytes of all sorts, most of them nearly a form, held against the other reader.
func TestBytesThatAreNearlyForms(t *testing.T) {
	t.Parallel()
	by := rand.New(rand.NewSource(7))
	took, left := 0, 0
	for range 20000 {
		f := api.Frame{Page: sizes()[by.Intn(4)], Width: 1 + by.Intn(32)}
		s := []byte(laid(f, some(by, f), by.Intn(2) == 0))
		for range by.Intn(3) {
			s[by.Intn(min(len(s), 1+by.Intn(len(s))))] = []byte{0, 1, 2, 127, 128, 255, byte(by.Intn(256))}[by.Intn(7)]
		}
		if at := by.Intn(len(s)); by.Intn(8) == 0 {
			s = slices.Insert(s, at, byte(by.Intn(256)))
		} else if by.Intn(8) == 0 {
			s = slices.Delete(s, at, at+1)
		}
		if likewise(t, "what is nearly a form", f, string(s)) {
			took++
		} else {
			left++
		}
	}
	if took < 2000 || left < 2000 {
		t.Error("too few, or too many, were taken:", took, left)
	}
}

// some answers a node of a frame by chance: well shaped mostly, within the room mostly.
func some(by *rand.Rand, f api.Frame) api.Node {
	var keys []string
	for range by.Intn(12) {
		b := make([]byte, 1+by.Intn(1+by.Intn(mostKey(f))))
		by.Read(b)
		keys = append(keys, string(b))
	}
	slices.Sort(keys)
	var n api.Node
	if by.Intn(2) == 0 {
		for _, k := range keys {
			n.Pairs = append(n.Pairs, api.Pair{Key: k, Val: mixed(by.Intn(1+by.Intn(mostVal(f))), by.Intn(99))})
		}
		return n
	}
	n = branch(f, keys...)
	for i := range n.Kids {
		n.Kids[i] = api.Kid{Page: by.Uint32() >> by.Intn(31), Sum: digest(f.Width, by.Intn(99))}
	}
	return n
}

func TestNodesByChance(t *testing.T) {
	t.Parallel()
	by := rand.New(rand.NewSource(70))
	for range 5000 {
		f := api.Frame{Page: sizes()[by.Intn(4)], Width: 1 + by.Intn(32)}
		holds(t, "a node by chance", f, some(by, f))
	}
}
