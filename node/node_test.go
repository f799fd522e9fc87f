package node_test

import (
	"bytes"
	"crypto/sha256"
	"encoding/binary"
	"fmt"
	"math"
	"slices"
	"strings"
	"testing"

	"heartwood/api"
	"heartwood/node"
)

// sizes are the four that a page may have.
func sizes() []int { return []int{1024, 2048, 4096, 8192} }

// frames are all that may be.
func frames() []api.Frame {
	var l []api.Frame
	for _, size := range sizes() {
		for width := 1; width <= 32; width++ {
			l = append(l, api.Frame{Page: size, Width: width})
		}
	}
	return l
}

// few are frames of all sizes, for what is much to do.
func few() []api.Frame {
	return []api.Frame{{Page: 1024, Width: 2}, {Page: 2048, Width: 1}, {Page: 4096, Width: 31}, {Page: 8192, Width: 32}}
}

// odd are frames that may not be.
func odd() []api.Frame {
	l := []api.Frame{{}}
	for _, size := range []int{math.MinInt, -1024, -1, 0, 1, 32, 512, 1000, 1023, 1025, 1536, 2047, 2049, 3072, 4095, 4097, 8191, 8193, 16384, 1<<32 + 1024, math.MaxInt} {
		l = append(l, api.Frame{Page: size, Width: 1}, api.Frame{Page: size, Width: 32}, api.Frame{Page: size})
	}
	for _, width := range []int{math.MinInt, -32, -1, 0, 33, 64, 256, 257, 1 + 1<<32, math.MaxInt} {
		for _, size := range sizes() {
			l = append(l, api.Frame{Page: size, Width: width})
		}
	}
	return l
}

// mostKey and mostVal tell outright how long keys and values may be.
func mostKey(f api.Frame) int { return map[int]int{1024: 64, 2048: 128, 4096: 256, 8192: 512}[f.Page] }
func mostVal(f api.Frame) int {
	return map[int]int{1024: 128, 2048: 256, 4096: 512, 8192: 1024}[f.Page]
}
func room(f api.Frame) int { return map[int]int{1024: 992, 2048: 2016, 4096: 4064, 8192: 8160}[f.Page] }

// digest answers a digest that fits a width just so: none of its bytes ahead of the width is 0.
func digest(width, seed int) api.Digest {
	var d api.Digest
	for i := range width {
		d[i] = byte(1 + (i*7+seed*31)%255)
	}
	return d
}

// mixed answers so many bytes, of all values.
func mixed(n, seed int) string {
	b := make([]byte, n)
	for i := range b {
		b[i] = byte(i*i*5 + i*11 + seed*37)
	}
	return string(b)
}

// leaf answers the leaf of these keys and values, by turns.
func leaf(texts ...string) api.Node {
	var n api.Node
	for i := 0; i < len(texts); i += 2 {
		n.Pairs = append(n.Pairs, api.Pair{Key: texts[i], Val: texts[i+1]})
	}
	return n
}

// branch answers the branch with these separators, whose kids lie on the pages from 2 on.
func branch(f api.Frame, seps ...string) api.Node {
	n := api.Node{Seps: seps}
	for i := range len(seps) + 1 {
		n.Kids = append(n.Kids, api.Kid{Page: uint32(2 + i), Sum: digest(f.Width, i)})
	}
	return n
}

// with answers a node with something of it changed.
func with(n api.Node, change func(n *api.Node)) api.Node {
	n = api.Node{Pairs: slices.Clone(n.Pairs), Seps: slices.Clone(n.Seps), Kids: slices.Clone(n.Kids)}
	change(&n)
	return n
}

// leafOf answers a leaf of just that size, which must be 30 or more.
func leafOf(size int) api.Node {
	var n api.Node
	left := size - 2
	for ; left > 134; left -= 107 {
		n.Pairs = append(n.Pairs, api.Pair{Key: fmt.Sprintf("k%04d", len(n.Pairs)), Val: mixed(100, len(n.Pairs))})
	}
	return with(n, func(n *api.Node) { n.Pairs = append(n.Pairs, api.Pair{Key: "zzzzz", Val: mixed(left-7, 9)}) })
}

// branchOf answers a branch of just that size, which must be 200 or more.
func branchOf(f api.Frame, size int) api.Node {
	for _, head := range []int{2, 3} { // 3, where there are so many kids that their number has two bytes
		var seps []string
		left := size - head - 4 - f.Width
		for ; left > 69+f.Width; left -= 15 + f.Width {
			seps = append(seps, fmt.Sprintf("%010d", len(seps)))
		}
		n := branch(f, append(seps, strings.Repeat("z", left-5-f.Width))...)
		if len(laid(f, n, true)) == size {
			return n
		}
	}
	panic("no branch of that size")
}

// many answers a leaf of so many pairs without values, whose size is 2 or 3 and 4 for each.
func many(n int) api.Node {
	var l api.Node
	for i := range n {
		l.Pairs = append(l.Pairs, api.Pair{Key: string([]byte{byte(i >> 8), byte(i)})})
	}
	return l
}

// nodes are well shaped ones of a frame with a size within the room, the empty leaf among them, on pages that may be.
func nodes(f api.Frame) []api.Node {
	key, val := mixed(mostKey(f), 1), mixed(mostVal(f), 2)
	high := strings.Repeat("\xff", mostKey(f))
	l := []api.Node{
		{},
		leaf("a", "x", "b", ""),
		leaf("\x00", "", "\x00\x00", "\x00", "\xff", "\xff\xff"),
		leaf("a", "", "a\x00", "", "ab", "", "b", ""),
		leaf(key, val),
		leaf(high[1:], val, high, ""),
		leaf(mixed(63, 3), mixed(127, 4), "\xff", mixed(128, 5)),
		many(1), many(127), many(128), many(200),
		leafOf(30), leafOf(f.Page / 3), leafOf(room(f) - 1), leafOf(room(f)),
		branch(f, "m"),
		branch(f, "\x00", "\x00\x00", "\x80", "\xff"),
		branch(f, high),
		branch(f, high[1:], high),
		branch(f, mixed(63, 6)),
		branchOf(f, 200), branchOf(f, room(f)-1), branchOf(f, room(f)),
	}
	for _, n := range l[15:] {
		l = append(l, with(n, func(n *api.Node) {
			n.Kids[0] = api.Kid{Page: 1<<31 - 1}
			n.Kids[1] = api.Kid{Page: 0x01020304, Sum: api.Digest{255}}
			n.Kids[len(n.Kids)-1].Page = 2
		}))
	}
	return l
}

// large are well shaped nodes of a frame with a size above the room.
func large(f api.Frame) []api.Node {
	return []api.Node{leafOf(room(f) + 1), leafOf(3 * f.Page), many(room(f) / 4), branchOf(f, room(f)+1), branchOf(f, 3*f.Page)}
}

// wrong are nodes that are not well shaped in a frame, by what is wrong with them.
func wrong(f api.Frame) map[string]api.Node {
	key, val := strings.Repeat("k", mostKey(f)+1), strings.Repeat("v", mostVal(f)+1)
	b := branch(f, "m")
	three := branch(f, "g", "m")
	return map[string]api.Node{
		"an empty key":                    leaf("", "x"),
		"an empty key, the second":        leaf("a", "x", "", "x"),
		"a key that is too long":          leaf(key, ""),
		"a key that is too long, behind":  leaf("a", "", key, ""),
		"a key that is very long":         leaf(strings.Repeat("k", 100000), ""),
		"a value that is too long":        leaf("a", val),
		"a value that is too long, ahead": leaf("a", val, "b", ""),
		"keys that fall":                  leaf("b", "", "a", ""),
		"keys that are alike":             leaf("a", "1", "a", "2"),
		"keys that fall at the end":       leaf("a", "", "c", "", "b", ""),
		"keys that fall by their ends":    leaf("ab", "", "a", ""),
		"keys that fall by signs":         leaf("\x80", "", "\x7f", ""),
		"a separator alone":               {Seps: []string{"m"}},
		"a separator with pairs":          {Seps: []string{"m"}, Pairs: leaf("a", "").Pairs},
		"kids with pairs":                 with(b, func(n *api.Node) { n.Pairs = leaf("a", "").Pairs }),
		"one kid":                         {Kids: b.Kids[:1]},
		"one kid with pairs":              {Kids: b.Kids[:1], Pairs: leaf("a", "").Pairs},
		"one kid and a separator":         {Kids: b.Kids[:1], Seps: b.Seps},
		"two kids without a separator":    {Kids: b.Kids},
		"two kids with two separators":    {Kids: b.Kids, Seps: three.Seps},
		"three kids with one separator":   {Kids: three.Kids, Seps: b.Seps},
		"three kids with three":           {Kids: three.Kids, Seps: []string{"a", "b", "c"}},
		"an empty separator":              branch(f, ""),
		"an empty separator, ahead":       branch(f, "", "m"),
		"a separator that is too long":    branch(f, key),
		"the last one is too long":        branch(f, "a", key),
		"separators that fall":            branch(f, "m", "g"),
		"separators that are alike":       branch(f, "m", "m"),
		"separators that fall at the end": branch(f, "a", "c", "b"),
		"separators that fall by signs":   branch(f, "\xff", "\x01"),
	}
}

// shaped tells whether a node is well shaped in a frame that may be, in another way than the program does: by what the list of keys is, sorted.
func shaped(f api.Frame, n api.Node) bool {
	keys := slices.Clone(n.Seps)
	for _, p := range n.Pairs {
		keys = append(keys, p.Key)
		if len(p.Val) > mostVal(f) {
			return false
		}
	}
	for _, k := range n.Kids {
		if strings.Trim(string(k.Sum[f.Width:]), "\x00") != "" {
			return false
		}
	}
	for _, k := range keys {
		if k == "" || len(k) > mostKey(f) {
			return false
		}
	}
	sorted := slices.Compact(slices.SortedFunc(slices.Values(keys), func(a, b string) int { return bytes.Compare([]byte(a), []byte(b)) }))
	if !slices.Equal(sorted, keys) {
		return false
	}
	if len(n.Kids) == 0 {
		return len(n.Seps) == 0
	}
	return len(n.Pairs) == 0 && len(n.Kids) > 1 && len(n.Kids) == len(n.Seps)+1
}

// laid lays a node's page form or its plain one by the chapter's words, in another way than the program does; it lays nodes that are not well shaped, too.
func laid(f api.Frame, n api.Node, paged bool) string { return spread(f, n, paged, -1) }

// spread is laid, but that the free number of that place among the form's has a byte more than it needs.
func spread(f api.Frame, n api.Node, paged bool, at int) string {
	var b []byte
	number := func(x int) {
		b = binary.AppendUvarint(b, uint64(x))
		if at == 0 {
			b[len(b)-1] |= 128
			b = append(b, 0)
		}
		at--
	}
	text := func(s string) {
		number(len(s))
		b = append(b, s...)
	}
	if len(n.Kids) == 0 && len(n.Seps) == 0 {
		b = append(b, 1)
		number(len(n.Pairs))
		for _, p := range n.Pairs {
			text(p.Key)
			text(p.Val)
		}
		return string(b)
	}
	b = append(b, 2)
	number(len(n.Kids))
	for i, k := range n.Kids {
		if i > 0 && i <= len(n.Seps) {
			text(n.Seps[i-1])
		}
		if paged {
			b = binary.BigEndian.AppendUint32(b, k.Page)
		}
		b = append(b, k.Sum[:f.Width]...)
	}
	return string(b)
}

// numbers tells how many free numbers a node's forms have.
func numbers(n api.Node) int { return 1 + 2*len(n.Pairs) + len(n.Seps) }

// due answers what Check, Pack and Plain are to answer, by the words of the promises.
func due(f api.Frame, n api.Node) (check, pack, plain api.Errno) {
	if !slices.Contains(sizes(), f.Page) || f.Width < 1 || f.Width > 32 {
		return api.ErrArg, api.ErrArg, api.ErrArg
	}
	if !shaped(f, n) {
		return api.ErrNode, api.ErrNode, api.ErrNode
	}
	if len(n.Pairs)+len(n.Kids) == 0 {
		return api.OK, api.ErrNode, api.OK
	}
	if len(laid(f, n, true)) > room(f) {
		return api.OK, api.ErrRoom, api.ErrRoom
	}
	for _, k := range n.Kids {
		if k.Page < 2 || k.Page > 1<<31-1 {
			return api.OK, api.ErrChild, api.OK
		}
	}
	return api.OK, api.OK, api.OK
}

// hashed answers a node's digest by the library's SHA-256.
func hashed(f api.Frame, n api.Node) api.Digest {
	tag := "branch"
	if len(n.Kids) == 0 {
		tag = "leaf"
	}
	plain := laid(f, n, false)
	text := append([]byte{byte(len(tag))}, tag...)
	text = binary.BigEndian.AppendUint32(text, uint32(len(plain)))
	d := api.Digest(sha256.Sum256(append(text, plain...)))
	clear(d[f.Width:])
	return d
}

// alike tells whether two nodes are, by a walk along their lists; that a list is nil is not asked.
func alike(a, b api.Node) bool {
	if len(a.Pairs) != len(b.Pairs) || len(a.Seps) != len(b.Seps) || len(a.Kids) != len(b.Kids) {
		return false
	}
	for i, p := range a.Pairs {
		if p.Key != b.Pairs[i].Key || p.Val != b.Pairs[i].Val {
			return false
		}
	}
	for i, k := range a.Kids {
		if k.Page != b.Kids[i].Page || k.Sum != b.Kids[i].Sum {
			return false
		}
	}
	for i, s := range a.Seps {
		if s != b.Seps[i] {
			return false
		}
	}
	return true
}

// unpaged answers a node with the Page 0 in all its kids.
func unpaged(n api.Node) api.Node {
	return with(n, func(n *api.Node) {
		for i := range n.Kids {
			n.Kids[i].Page = 0
		}
	})
}

// roomy answers a node with spare room behind its lists, and a call that tells whether it and that room are what they were.
func roomy(n api.Node) (api.Node, func() bool) {
	pairs := append(slices.Clone(n.Pairs), api.Pair{Key: "spare", Val: "pair"})
	seps := append(slices.Clone(n.Seps), "spare sep")
	kids := append(slices.Clone(n.Kids), api.Kid{Page: 77, Sum: api.Digest{7}})
	was := with(api.Node{Pairs: pairs, Seps: seps, Kids: kids}, func(*api.Node) {})
	kept := func() bool {
		return slices.Equal(pairs, was.Pairs) && slices.Equal(seps, was.Seps) && slices.Equal(kids, was.Kids)
	}
	return api.Node{Pairs: pairs[:len(n.Pairs)], Seps: seps[:len(n.Seps)], Kids: kids[:len(n.Kids)]}, kept
}

// brief tells a node in few words.
func brief(f api.Frame, n api.Node) string {
	s := fmt.Sprintf("%+v", n)
	return fmt.Sprintf("%v %d pairs, %d seps, %d kids: %q", f, len(n.Pairs), len(n.Seps), len(n.Kids), s[:min(len(s), 200)])
}

// holds complains, if one of the calls that take a node answers otherwise of it than is due, or changes it.
func holds(t *testing.T, what string, f api.Frame, given api.Node) {
	t.Helper()
	n, kept := roomy(given)
	check, pack, plain := due(f, n)
	if e := node.Check(f, n); e != check {
		t.Fatalf("Check of %s: %v, and not %v: %s", what, e, check, brief(f, n))
	}
	size, page, bare, sum := 0, "", "", api.Digest{}
	if check == api.OK {
		size = len(laid(f, n, true))
	}
	if pack == api.OK {
		page = laid(f, n, true)
	}
	if plain == api.OK {
		bare, sum = laid(f, n, false), hashed(f, n)
	}
	if x := node.Size(f, n); x != size {
		t.Fatalf("Size of %s: %d, and not %d: %s", what, x, size, brief(f, n))
	}
	if s, e := node.Pack(f, n); e != pack || s != page {
		t.Fatalf("Pack of %s: %x, %v, and not %x, %v: %s", what, s, e, page, pack, brief(f, n))
	}
	if s, e := node.Plain(f, n); e != plain || s != bare {
		t.Fatalf("Plain of %s: %x, %v, and not %x, %v: %s", what, s, e, bare, plain, brief(f, n))
	}
	if d, e := node.Sum(f, n); e != plain || d != sum {
		t.Fatalf("Sum of %s: %x, %v, and not %x, %v: %s", what, d, e, sum, plain, brief(f, n))
	}
	if !kept() {
		t.Fatalf("%s is another one now: %s", what, brief(f, n))
	}
}

// 7.1: which frames may be.
func TestRight(t *testing.T) {
	for _, f := range frames() {
		if !node.Right(f) {
			t.Error(f)
		}
	}
	for _, f := range odd() {
		if node.Right(f) {
			t.Error(f)
		}
	}
	for size := -10; size < 10000; size++ {
		if node.Right(api.Frame{Page: size, Width: 7}) != slices.Contains(sizes(), size) {
			t.Error(size)
		}
	}
	for width := -40; width < 600; width++ {
		if node.Right(api.Frame{Page: 2048, Width: width}) != (width >= 1 && width <= 32) {
			t.Error(width)
		}
	}
}

// refused complains, if a node in a frame is not refused so by each call that takes both, or Size is not 0.
func refused(t *testing.T, what string, f api.Frame, n api.Node, want api.Errno) {
	t.Helper()
	_, pack := node.Pack(f, n)
	_, plain := node.Plain(f, n)
	_, sum := node.Sum(f, n)
	if e := node.Check(f, n); e != want || pack != want || plain != want || sum != want || node.Size(f, n) != 0 {
		t.Fatalf("%s: %v, %v, %v, %v, size %d, and not %v: %s", what, e, pack, plain, sum, node.Size(f, n), want, brief(f, n))
	}
	holds(t, what, f, n)
}

func TestNodesThatAreWellShaped(t *testing.T) {
	t.Parallel()
	for _, f := range frames() {
		for _, n := range append(nodes(f), large(f)...) {
			if node.Check(f, n) != api.OK {
				t.Fatal(brief(f, n))
			}
			holds(t, "a node", f, n)
		}
	}
}

func TestNodesThatAreNotWellShaped(t *testing.T) {
	t.Parallel()
	for _, f := range frames() {
		for what, n := range wrong(f) {
			refused(t, what, f, n, api.ErrNode)
		}
	}
}

// A frame that may not be is told ahead of all that is wrong with a node.
func TestFramesThatMayNotBe(t *testing.T) {
	f := few()[0]
	for _, off := range odd() {
		for _, n := range append(nodes(f), large(f)...) {
			refused(t, "a node", off, n, api.ErrArg)
		}
		for what, n := range wrong(f) {
			refused(t, what, off, n, api.ErrArg)
		}
		if d, e := node.Empty(off); e != api.ErrArg || d != (api.Digest{}) {
			t.Errorf("Empty: %x, %v", d, e)
		}
	}
}

// is complains, if Check does not tell whether a node is well shaped as it is told here outright.
func is(t *testing.T, what string, f api.Frame, n api.Node, ok bool) {
	t.Helper()
	if e := node.Check(f, n); (e == api.OK) != ok {
		t.Fatalf("%s: %v: %s", what, e, brief(f, n))
	}
	holds(t, what, f, n)
}

func TestLengthsOfKeysAndValues(t *testing.T) {
	t.Parallel()
	for _, f := range frames() {
		for _, n := range []int{0, 1, 2, mostKey(f) - 1, mostKey(f), mostKey(f) + 1, 2 * mostKey(f), f.Page} {
			key, ok := strings.Repeat("k", n), n >= 1 && n <= mostKey(f)
			is(t, "a key", f, leaf(key, "v"), ok)
			is(t, "a key behind others", f, leaf("a", "", "b", "", key, ""), ok)
			is(t, "a key ahead of others", f, leaf(key, "", "x", "", "y", ""), ok)
			is(t, "a separator", f, branch(f, key), ok)
			is(t, "a separator behind others", f, branch(f, "a", "b", key), ok)
			is(t, "a separator ahead of others", f, branch(f, key, "x", "y"), ok)
		}
		for _, n := range []int{0, 1, 127, 128, mostVal(f) - 1, mostVal(f), mostVal(f) + 1, 2 * mostVal(f), f.Page} {
			val, ok := strings.Repeat("v", n), n <= mostVal(f)
			is(t, "a value", f, leaf("a", val), ok)
			is(t, "a value ahead of others", f, leaf("a", val, "b", ""), ok)
			is(t, "a value behind others", f, leaf("a", "", "b", val), ok)
		}
	}
}

func TestOrderOfKeys(t *testing.T) {
	f := few()[0]
	all := []string{"", "\x00", "\x00\x00", "\x00\x01", "\x01", "A", "a", "a\x00", "aa", "ab", "b", "\x7f", "\x7f\xff", "\x80", "\xc3\xa9", "\xff", "\xff\x00", "\xff\xff"}
	for i, a := range all {
		for j, b := range all {
			ok := 0 < i && i < j
			is(t, "two keys", f, leaf(a, "1", b, "2"), ok)
			is(t, "two separators", f, branch(f, a, b), ok)
			for k, c := range all {
				is(t, "three keys", f, leaf(a, "", b, "", c, ""), ok && j < k)
				is(t, "three separators", f, branch(f, a, b, c), ok && j < k)
			}
		}
	}
}

// Lists of all lengths beside each other.
func TestLengthsOfLists(t *testing.T) {
	for _, f := range few() {
		all := branch(f, "a", "b", "c", "d", "e")
		for pairs := range 3 {
			for seps := range 6 {
				for kids := range 7 {
					n := api.Node{Pairs: many(pairs).Pairs, Seps: all.Seps[:seps], Kids: all.Kids[:kids]}
					isBranch := pairs == 0 && kids >= 2 && seps == kids-1
					is(t, "lists", f, n, seps == 0 && kids == 0 || isBranch)
				}
			}
		}
	}
}

// A kid's digest fits the width; which page it has is not asked.
func TestKidsDigests(t *testing.T) {
	t.Parallel()
	for _, f := range frames() {
		for at := range 32 {
			for kid := range 3 {
				n := branch(f, "a", "b")
				n.Kids[kid].Sum = api.Digest{}
				n.Kids[kid].Sum[at] = byte(1 + at)
				is(t, "a digest of one byte", f, n, at < f.Width)
				n.Kids[kid].Sum = digest(at+1, 3)
				is(t, "a digest", f, n, at < f.Width)
			}
		}
		is(t, "digests of noughts", f, with(branch(f, "a"), func(n *api.Node) { n.Kids = make([]api.Kid, 2) }), true)
	}
}

// Lists that are nil and lists that are empty mean the same.
func TestEmptyLists(t *testing.T) {
	for _, f := range few() {
		for _, n := range []api.Node{{}, {Pairs: []api.Pair{}, Seps: []string{}, Kids: []api.Kid{}}, {Seps: make([]string, 0, 9)}} {
			is(t, "the empty leaf", f, n, true)
		}
		b := branch(f, "m")
		b.Pairs = []api.Pair{}
		is(t, "a branch with an empty list of pairs", f, b, true)
		l := leaf("a", "")
		l.Seps, l.Kids = []string{}, []api.Kid{}
		is(t, "a leaf with empty lists", f, l, true)
	}
}
