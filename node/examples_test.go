package node_test

import (
	"strings"
	"testing"

	"heartwood/api"
	"heartwood/node"
)

// example answers the frame, the leaf L and the branch B of the chapter's table.
func example() (f api.Frame, l, b api.Node) {
	b = api.Node{Seps: []string{"m"}, Kids: []api.Kid{{Page: 5, Sum: api.Digest{0x0a, 0x0b}}, {Page: 9, Sum: api.Digest{0x0c, 0x0d}}}}
	return api.Frame{Page: 1024, Width: 2}, leaf("a", "x", "b", ""), b
}

// answers complains, if bytes and an error are not those of the table.
func answers(t *testing.T, what, s string, e api.Errno, want string, code api.Errno) {
	t.Helper()
	if s != want || e != code {
		t.Errorf("%s: %x, %v, and not %x, %v", what, s, e, want, code)
	}
}

func TestExamplesOfForms(t *testing.T) {
	f, l, b := example()
	s, e := node.Pack(f, l)
	answers(t, "Pack(L)", s, e, "\x01\x02\x01\x61\x01\x78\x01\x62\x00", api.OK)
	s, e = node.Pack(f, b)
	answers(t, "Pack(B)", s, e, "\x02\x02\x00\x00\x00\x05\x0a\x0b\x01\x6d\x00\x00\x00\x09\x0c\x0d", api.OK)
	s, e = node.Plain(f, b)
	answers(t, "Plain(B)", s, e, "\x02\x02\x0a\x0b\x01\x6d\x0c\x0d", api.OK)
	s, e = node.Plain(f, api.Node{})
	answers(t, "Plain of the empty leaf", s, e, "\x01\x00", api.OK)
	if x, y := node.Size(f, l), node.Size(f, b); x != 9 || y != 16 {
		t.Error(x, y)
	}
	b.Kids[0].Page, b.Kids[1].Page = 0, 0
	reads(t, "Read", f, "\x02\x02\x0a\x0b\x01\x6d\x0c\x0d", node.Read, b, api.OK)
}

func TestExamplesOfRefusals(t *testing.T) {
	f, _, b := example()
	s, e := node.Pack(f, api.Node{})
	answers(t, "Pack of the empty leaf", s, e, "", api.ErrNode)
	for _, page := range []uint32{1, 1 << 31} {
		for kid := range 2 {
			s, e = node.Pack(f, with(b, func(n *api.Node) { n.Kids[kid].Page = page }))
			answers(t, "Pack with another page", s, e, "", api.ErrChild)
		}
	}
	var nine api.Node
	for _, k := range "abcdefghi" {
		nine.Pairs = append(nine.Pairs, api.Pair{Key: string(k), Val: strings.Repeat("v", 128)})
	}
	s, e = node.Plain(f, nine)
	answers(t, "Plain of nine pairs", s, e, "", api.ErrRoom)
	for _, s := range []string{"\x01\x00", "\x01\x02\x01\x62\x00\x01\x61\x00", "\x02\x01\x00\x00\x00\x05\x0a\x0b", "\x01\x81\x00\x01\x61\x00", ""} {
		reads(t, "Unpack", f, s, node.Unpack, api.Node{}, api.ErrBody)
	}
}

func TestExamplesOfCheck(t *testing.T) {
	f, l, b := example()
	if x, y, z := node.Check(f, l), node.Check(f, b), node.Check(f, api.Node{}); x != api.OK || y != api.OK || z != api.OK {
		t.Error(x, y, z)
	}
	for what, n := range map[string]api.Node{
		"Seps m alone":                {Seps: []string{"m"}},
		"B with Pairs":                with(b, func(n *api.Node) { n.Pairs = l.Pairs }),
		"B without its separator":     with(b, func(n *api.Node) { n.Seps = nil }),
		"a digest of three bytes":     with(b, func(n *api.Node) { n.Kids[0].Sum[2] = 1 }),
		"a leaf b, a":                 leaf("b", "", "a", ""),
		"a leaf with an empty key":    leaf("", "x"),
		"a leaf with an empty key, 2": leaf("", "", "a", ""),
	} {
		if e := node.Check(f, n); e != api.ErrNode {
			t.Errorf("%s: %v", what, e)
		}
	}
	if e := node.Check(api.Frame{Page: 1000, Width: 2}, b); e != api.ErrArg {
		t.Error(e)
	}
}
