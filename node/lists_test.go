package node_test

import (
	"testing"

	"heartwood/api"
	"heartwood/node"
)

// unlike are nodes of all sorts, no two alike: well shaped ones, and others that differ in one field each.
func unlike() []api.Node {
	f := api.Frame{Page: 1024, Width: 2}
	l, b := leaf("a", "x", "b", ""), branch(f, "g", "m")
	both := api.Node{Pairs: l.Pairs, Seps: b.Seps, Kids: b.Kids}
	all := []api.Node{{}, l, b, both, {Seps: b.Seps}, {Kids: b.Kids}, {Pairs: l.Pairs, Seps: b.Seps}, {Pairs: l.Pairs, Kids: b.Kids}}
	for _, change := range []func(n *api.Node){
		func(n *api.Node) { n.Pairs[0].Key = "" },
		func(n *api.Node) { n.Pairs[1].Key = "a" },
		func(n *api.Node) { n.Pairs[0].Val = "y" },
		func(n *api.Node) { n.Pairs[1].Val = "\x00" },
		func(n *api.Node) { n.Pairs[0], n.Pairs[1] = n.Pairs[1], n.Pairs[0] },
		func(n *api.Node) { n.Pairs = n.Pairs[:1] },
		func(n *api.Node) { n.Pairs = append(n.Pairs, api.Pair{}) },
		func(n *api.Node) { n.Seps[0] = "G" },
		func(n *api.Node) { n.Seps[1] = "m\x00" },
		func(n *api.Node) { n.Seps[0], n.Seps[1] = n.Seps[1], n.Seps[0] },
		func(n *api.Node) { n.Seps = n.Seps[:1] },
		func(n *api.Node) { n.Seps = append(n.Seps, "") },
		func(n *api.Node) { n.Kids[0].Page = 0 },
		func(n *api.Node) { n.Kids[2].Page = 1 << 31 },
		func(n *api.Node) { n.Kids[1].Sum[0]++ },
		func(n *api.Node) { n.Kids[2].Sum[31] = 1 },
		func(n *api.Node) { n.Kids[0], n.Kids[1] = n.Kids[1], n.Kids[0] },
		func(n *api.Node) { n.Kids = n.Kids[1:] },
		func(n *api.Node) { n.Kids = append(n.Kids, api.Kid{}) },
	} {
		all = append(all, with(both, change))
	}
	return all
}

// 7.6: of nodes that differ in one field, or in an order, none is another.
func TestSame(t *testing.T) {
	all, others := unlike(), unlike()
	for i, a := range all {
		for j, b := range others {
			a, keptA := roomy(a)
			b, keptB := roomy(b)
			if node.Same(a, b) != (i == j) {
				t.Errorf("Same(%v, %v) is %v", a, b, i != j)
			}
			if !keptA() || !keptB() {
				t.Error("Same changes what is handed in")
			}
		}
	}
}

// Lists that are nil and lists that are empty are alike.
func TestSameOfEmptyLists(t *testing.T) {
	empty := func(n api.Node) api.Node {
		if n.Pairs == nil {
			n.Pairs = []api.Pair{}
		}
		if n.Seps == nil {
			n.Seps = make([]string, 0, 3)
		}
		if n.Kids == nil {
			n.Kids = []api.Kid{}
		}
		return n
	}
	for _, n := range unlike() {
		if !node.Same(n, empty(n)) || !node.Same(empty(n), n) || !node.Same(empty(n), empty(n)) {
			t.Errorf("%v is not the same with empty lists", n)
		}
	}
}

// 7.6: a copy is the same, and nothing that is written into the one, or behind it, is seen in the other.
func TestCopy(t *testing.T) {
	for _, was := range unlike() {
		n, kept := roomy(was)
		c := node.Copy(n)
		if !alike(c, was) || !node.Same(c, n) {
			t.Fatalf("%v, and not %v", c, was)
		}
		scribble(c)
		if !kept() {
			t.Fatalf("what is written into the copy is seen in %v", was)
		}
		c = node.Copy(n)
		_ = append(c.Pairs, api.Pair{Key: "behind"})
		_ = append(c.Seps, "behind")
		_ = append(c.Kids, api.Kid{Page: 3})
		if !kept() {
			t.Fatalf("what is laid behind the copy is seen behind %v", was)
		}
		scribble(n)
		if !alike(c, was) {
			t.Fatalf("what is written into the node is seen in the copy of %v", was)
		}
	}
}

// What one copy is told, no other one sees; a copy of a copy has lists of its own, too.
func TestCopyTwice(t *testing.T) {
	for _, n := range unlike() {
		a := node.Copy(n)
		b, c := node.Copy(n), node.Copy(a)
		scribble(a)
		if !alike(b, n) || !alike(c, n) {
			t.Errorf("copies of %v share their lists", n)
		}
	}
}
