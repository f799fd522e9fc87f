package graft_test

import (
	"bytes"
	"fmt"
	"math"
	"math/rand"
	"slices"
	"strings"

	"heartwood/api"
)

// sizes are the four that a page may have.
func sizes() []int { return []int{1024, 2048, 4096, 8192} }

// frames are all that may be.
func frames() []api.Frame {
	var l []api.Frame
	for _, size := range sizes() {
		for width := 1; width <= 32; width++ {
			l = append(l, api.Frame{Page: size, Width: width})
		}
	}
	return l
}

// few are frames of all sizes, for what is much to do.
func few() []api.Frame {
	return []api.Frame{{Page: 1024, Width: 2}, {Page: 2048, Width: 1}, {Page: 4096, Width: 31}, {Page: 8192, Width: 32}}
}

// odd are frames that may not be.
func odd() []api.Frame {
	l := []api.Frame{{}}
	for _, size := range []int{math.MinInt, -1024, -1, 0, 1, 32, 512, 1000, 1023, 1025, 1536, 4095, 8193, 16384, 1<<32 + 1024, math.MaxInt} {
		l = append(l, api.Frame{Page: size, Width: 1}, api.Frame{Page: size, Width: 32}, api.Frame{Page: size})
	}
	for _, width := range []int{math.MinInt, -32, -1, 0, 33, 64, 257, math.MaxInt} {
		for _, size := range sizes() {
			l = append(l, api.Frame{Page: size, Width: width})
		}
	}
	return l
}

// anyFrame answers one of those that may be.
func anyFrame(by *rand.Rand) api.Frame {
	return api.Frame{Page: sizes()[by.Intn(4)], Width: 1 + by.Intn(32)}
}

// What a frame lets in, told outright.
func mostKey(f api.Frame) int { return map[int]int{1024: 64, 2048: 128, 4096: 256, 8192: 512}[f.Page] }
func mostVal(f api.Frame) int {
	return map[int]int{1024: 128, 2048: 256, 4096: 512, 8192: 1024}[f.Page]
}
func room(f api.Frame) int { return map[int]int{1024: 992, 2048: 2016, 4096: 4064, 8192: 8160}[f.Page] }
func least(f api.Frame) int {
	return map[int]int{1024: 331, 2048: 672, 4096: 1355, 8192: 2720}[f.Page]
}

// digest answers a digest that fits a width just so: none of its bytes ahead of the width is 0.
func digest(width, seed int) api.Digest {
	var d api.Digest
	for i := range width {
		d[i] = byte(1 + (i*7+seed*31)%255)
	}
	return d
}

// leaf answers the leaf of these keys and values, by turns.
func leaf(texts ...string) api.Node {
	var n api.Node
	for i := 0; i < len(texts); i += 2 {
		n.Pairs = append(n.Pairs, api.Pair{Key: texts[i], Val: texts[i+1]})
	}
	return n
}

// kidsOf answers so many kids, on the pages from one on.
func kidsOf(f api.Frame, from, many int) []api.Kid {
	var l []api.Kid
	for i := from; i < from+many; i++ {
		l = append(l, api.Kid{Page: uint32(i), Sum: digest(f.Width, i)})
	}
	return l
}

// branch answers the branch with these separators, whose kids lie on the pages from 2 on.
func branch(f api.Frame, seps ...string) api.Node {
	return api.Node{Seps: seps, Kids: kidsOf(f, 2, len(seps)+1)}
}

// changed answers a node with something of it changed.
func changed(n api.Node, change func(n *api.Node)) api.Node {
	n = api.Node{Pairs: slices.Clone(n.Pairs), Seps: slices.Clone(n.Seps), Kids: slices.Clone(n.Kids)}
	change(&n)
	return n
}

// leafOf answers a leaf of just that size, which must be 30 or more.
func leafOf(size int) api.Node {
	for _, head := range []int{2, 3} { // 3, where there are so many pairs that their number has two bytes
		var n api.Node
		left := size - head
		for ; left > 134; left -= 107 {
			n.Pairs = append(n.Pairs, api.Pair{Key: fmt.Sprintf("k%04d", len(n.Pairs)), Val: strings.Repeat("v", 100)})
		}
		n.Pairs = append(n.Pairs, api.Pair{Key: "zzzzz", Val: strings.Repeat("z", left-7)})
		if sizeOf(api.Frame{}, n) == size {
			return n
		}
	}
	panic("no leaf of that size")
}

// branchOf answers a branch of just that size, which must be 200 or more.
func branchOf(f api.Frame, size int) api.Node {
	for _, head := range []int{2, 3} {
		var seps []string
		left := size - head - 4 - f.Width
		for ; left > 69+f.Width; left -= 15 + f.Width {
			seps = append(seps, fmt.Sprintf("%010d", len(seps)))
		}
		n := branch(f, append(seps, strings.Repeat("z", left-5-f.Width))...)
		if sizeOf(f, n) == size {
			return n
		}
	}
	panic("no branch of that size")
}

// many answers a leaf of so many pairs without values, which take four bytes each.
func many(n int) api.Node {
	var l api.Node
	for i := range n {
		l.Pairs = append(l.Pairs, api.Pair{Key: string([]byte{byte(i >> 8), byte(i)})})
	}
	return l
}

// manyKids answers a branch of so many kids, with separators of two bytes.
func manyKids(f api.Frame, n int) api.Node {
	var seps []string
	for _, p := range many(n - 1).Pairs {
		seps = append(seps, p.Key)
	}
	return branch(f, seps...)
}

// rights are right nodes of a frame: leaves and then branches, the empty leaf among them, and full ones.
func rights(f api.Frame) []api.Node {
	key, val := strings.Repeat("k", mostKey(f)), strings.Repeat("v", mostVal(f))
	high := strings.Repeat("\xff", mostKey(f))
	return []api.Node{
		{},
		leaf("b", "1"),
		leaf("b", "1", "d", "2"),
		leaf("b", "1", "d", "2", "f", "3"),
		leaf("\x00", "", "\x00\x00", "\x00", "\xff", "\xff\xff"),
		leaf("a", "", "a\x00", "", "ab", "", "b", val),
		leaf(key, val),
		leaf("a", val, key, "", "l", val, "m", val, high, val),
		leaf(high[1:], val, high, ""),
		many(127), many(128), many(129), many(257),
		leafOf(30), leafOf(least(f)), leafOf(room(f)), leafOf(room(f) + 1), leafOf(room(f) + 2*least(f)),
		branch(f, "m"),
		branch(f, "c", "f"),
		branch(f, "c", "f", "i"),
		branch(f, "\x00", "\x00\x00", "\x80", "\xff"),
		branch(f, "a", key, "l", high[1:], high),
		manyKids(f, 127), manyKids(f, 129), manyKids(f, 255),
		branchOf(f, 200), branchOf(f, least(f)), branchOf(f, room(f)), branchOf(f, room(f)+1), branchOf(f, room(f)+2*least(f)),
	}
}

// wrong are nodes that are not right in a frame, by what is wrong with them: leaves and branches, and such that are neither.
func wrong(f api.Frame) map[string]api.Node {
	key, val := strings.Repeat("k", mostKey(f)+1), strings.Repeat("v", mostVal(f)+1)
	b := branch(f, "m")
	three := branch(f, "g", "m")
	l := map[string]api.Node{
		"an empty key":                  leaf("", "x"),
		"an empty key, the first":       leaf("", "x", "a", "x"),
		"a key that is too long":        leaf("a", "", key, ""),
		"a value that is too long":      leaf("a", val, "b", ""),
		"keys that fall":                leaf("b", "", "a", ""),
		"keys that are alike":           leaf("a", "1", "a", "2"),
		"keys that fall at the end":     leaf("a", "", "c", "", "b", ""),
		"a separator alone":             {Seps: []string{"m"}},
		"a separator with pairs":        {Seps: []string{"m"}, Pairs: leaf("a", "").Pairs},
		"kids with pairs":               changed(b, func(n *api.Node) { n.Pairs = leaf("a", "", "x", "").Pairs }),
		"one kid":                       {Kids: b.Kids[:1]},
		"one kid and a separator":       {Kids: b.Kids[:1], Seps: b.Seps},
		"two kids without a separator":  {Kids: b.Kids},
		"two kids with two separators":  {Kids: b.Kids, Seps: three.Seps},
		"three kids with one separator": {Kids: three.Kids, Seps: b.Seps},
		"an empty separator":            branch(f, "", "m"),
		"a separator that is too long":  branch(f, "a", key),
		"separators that fall":          branch(f, "m", "g", "p"),
		"separators that are alike":     branch(f, "m", "m"),
	}
	if f.Width < 32 {
		l["a digest that does not fit"] = changed(three, func(n *api.Node) { n.Kids[2].Sum[f.Width] = 1 })
	}
	return l
}

// some answers a node by chance: most are right, some are full, some are not right.
func some(by *rand.Rand, f api.Frame) api.Node {
	var n api.Node
	keys := someKeys(by, f, by.Intn(3)*by.Intn(30)+by.Intn(6))
	if by.Intn(2) == 0 {
		for _, k := range keys {
			n.Pairs = append(n.Pairs, api.Pair{Key: k, Val: strings.Repeat("v", by.Intn(3)*by.Intn(1+mostVal(f)/2))})
		}
	} else if len(keys) > 0 {
		n = branch(f, keys...)
	}
	if by.Intn(8) > 0 {
		return n
	}
	for _, x := range wrong(f) { // any of them
		if by.Intn(10) == 0 {
			return x
		}
	}
	if len(n.Pairs) > 1 {
		n.Pairs[0], n.Pairs[1] = n.Pairs[1], n.Pairs[0]
	}
	return n
}

// someKeys answers rising keys, of which many have a beginning in common.
func someKeys(by *rand.Rand, f api.Frame, most int) []string {
	var l []string
	for range most {
		l = append(l, someKey(by, f))
	}
	slices.Sort(l)
	return slices.Compact(l)
}

func someKey(by *rand.Rand, f api.Frame) string {
	b := make([]byte, 1+by.Intn(4))
	for i := range b {
		b[i] = "\x00ab\xff"[by.Intn(4)]
	}
	if by.Intn(4) == 0 {
		b = append(b, bytes.Repeat([]byte{'c'}, by.Intn(mostKey(f)-len(b)+1))...)
	}
	return string(b)
}

// right tells whether a node is right in a frame that may be, by what the list of its keys is, sorted.
func right(f api.Frame, n api.Node) bool {
	keys := slices.Clone(n.Seps)
	for _, p := range n.Pairs {
		keys = append(keys, p.Key)
		if len(p.Val) > mostVal(f) {
			return false
		}
	}
	for _, k := range n.Kids {
		if strings.Trim(string(k.Sum[f.Width:]), "\x00") != "" {
			return false
		}
	}
	for _, k := range keys {
		if !keyMayBe(f, k) {
			return false
		}
	}
	sorted := slices.Compact(slices.SortedFunc(slices.Values(keys), func(a, b string) int { return bytes.Compare([]byte(a), []byte(b)) }))
	if !slices.Equal(sorted, keys) {
		return false
	}
	if len(n.Kids) == 0 {
		return len(n.Seps) == 0
	}
	return len(n.Pairs) == 0 && len(n.Kids) > 1 && len(n.Kids) == len(n.Seps)+1
}

func keyMayBe(f api.Frame, k string) bool { return len(k) >= 1 && len(k) <= mostKey(f) }

// mayBe tells whether a frame may be.
func mayBe(f api.Frame) bool {
	return slices.Contains(sizes(), f.Page) && f.Width >= 1 && f.Width <= 32
}

// sizeOf answers how long a node's page form is: its bytes are counted in the order in which they lie.
func sizeOf(f api.Frame, n api.Node) int {
	size := 1
	number := func(x int) {
		for size++; x >= 128; x /= 128 {
			size++
		}
	}
	text := func(s string) {
		number(len(s))
		size += len(s)
	}
	number(max(len(n.Pairs), len(n.Kids)))
	for _, p := range n.Pairs {
		text(p.Key)
		text(p.Val)
	}
	for i := range n.Kids {
		if i > 0 {
			text(n.Seps[i-1])
		}
		size += 4 + f.Width
	}
	return size
}

// alike tells whether two nodes are, by a walk along their lists; that a list is nil is not asked.
func alike(a, b api.Node) bool {
	if len(a.Pairs) != len(b.Pairs) || len(a.Seps) != len(b.Seps) || len(a.Kids) != len(b.Kids) {
		return false
	}
	for i, p := range a.Pairs {
		if p.Key != b.Pairs[i].Key || p.Val != b.Pairs[i].Val {
			return false
		}
	}
	for i, k := range a.Kids {
		if k.Page != b.Kids[i].Page || k.Sum != b.Kids[i].Sum {
			return false
		}
	}
	for i, s := range a.Seps {
		if s != b.Seps[i] {
			return false
		}
	}
	return true
}

// same tells whether two halves are alike.
func same(a, b api.Halves) bool {
	return a.Sep == b.Sep && alike(a.Left, b.Left) && alike(a.Right, b.Right)
}

// roomy answers a node with spare room behind its lists, and a call that tells whether it and that room are what they were.
func roomy(n api.Node) (api.Node, func() bool) {
	pairs := append(slices.Clone(n.Pairs), api.Pair{Key: "spare", Val: "pair"})
	seps := append(slices.Clone(n.Seps), "spare sep")
	kids := append(slices.Clone(n.Kids), api.Kid{Page: 77, Sum: api.Digest{7}})
	was := changed(api.Node{Pairs: pairs, Seps: seps, Kids: kids}, func(*api.Node) {})
	kept := func() bool {
		return slices.Equal(pairs, was.Pairs) && slices.Equal(seps, was.Seps) && slices.Equal(kids, was.Kids)
	}
	return api.Node{Pairs: pairs[:len(n.Pairs)], Seps: seps[:len(n.Seps)], Kids: kids[:len(n.Kids)]}, kept
}

// scribble writes over all that is in a node's lists, and over the spare room behind them.
func scribble(n api.Node) {
	for i := range n.Pairs[:cap(n.Pairs)] {
		n.Pairs[:cap(n.Pairs)][i] = api.Pair{Key: "scribble", Val: "scribble"}
	}
	for i := range n.Seps[:cap(n.Seps)] {
		n.Seps[:cap(n.Seps)][i] = "scribble"
	}
	for i := range n.Kids[:cap(n.Kids)] {
		n.Kids[:cap(n.Kids)][i] = api.Kid{Page: 999}
	}
}

// brief tells a node in few words.
func brief(f api.Frame, n api.Node) string {
	s := fmt.Sprintf("%+v", n)
	return fmt.Sprintf("%v %d pairs, %d seps, %d kids: %q", f, len(n.Pairs), len(n.Seps), len(n.Kids), s[:min(len(s), 200)])
}

// parts tells halves in few words.
func parts(f api.Frame, h api.Halves) string {
	return fmt.Sprintf("%s | %.70q | %s", brief(f, h.Left), h.Sep, brief(f, h.Right))
}
