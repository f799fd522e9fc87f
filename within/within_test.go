package within_test

import (
	"testing"

	"heartwood/api"
	"heartwood/within"
)

func leaf(keys ...string) api.Node {
	var n api.Node
	for _, k := range keys {
		n.Pairs = append(n.Pairs, api.Pair{Key: k})
	}
	return n
}

func branch(seps ...string) api.Node {
	return api.Node{Seps: seps, Kids: make([]api.Kid, len(seps)+1)}
}

func TestUnder(t *testing.T) {
	n := branch("d", "g", "k")
	for _, c := range []struct {
		of   within.Bounds
		kid  int
		want within.Bounds
	}{
		{within.Bounds{}, 0, within.Bounds{Upper: "d"}},
		{within.Bounds{}, 1, within.Bounds{Lower: "d", Upper: "g"}},
		{within.Bounds{}, 2, within.Bounds{Lower: "g", Upper: "k"}},
		{within.Bounds{}, 3, within.Bounds{Lower: "k"}},
		{within.Bounds{Lower: "b", Upper: "p"}, 0, within.Bounds{Lower: "b", Upper: "d"}},
		{within.Bounds{Lower: "b", Upper: "p"}, 1, within.Bounds{Lower: "d", Upper: "g"}},
		{within.Bounds{Lower: "b", Upper: "p"}, 3, within.Bounds{Lower: "k", Upper: "p"}},
		{within.Bounds{Lower: "b", Upper: "p"}, 4, within.Bounds{Lower: "b", Upper: "p"}},
		{within.Bounds{Lower: "b", Upper: "p"}, -1, within.Bounds{Lower: "b", Upper: "p"}},
		{within.Bounds{Lower: "b", Upper: "p"}, -1 << 63, within.Bounds{Lower: "b", Upper: "p"}},
		{within.Bounds{Lower: "b", Upper: "p"}, 1<<63 - 1, within.Bounds{Lower: "b", Upper: "p"}},
	} {
		if got := c.of.Under(n, c.kid); got != c.want {
			t.Errorf("%v: the kid %d lies within %v", c.of, c.kid, got)
		}
	}
	if got := (within.Bounds{Lower: "b", Upper: "p"}).Under(leaf("c"), 0); got != (within.Bounds{Lower: "b", Upper: "p"}) {
		t.Errorf("a leaf's kid lies within %v", got)
	}
}

func TestKeptBy(t *testing.T) {
	for _, c := range []struct {
		of   within.Bounds
		n    api.Node
		want bool
	}{
		{within.Bounds{}, leaf("a", "z"), true},
		{within.Bounds{}, branch("a", "z"), true},
		{within.Bounds{Lower: "c", Upper: "m"}, leaf(), true},
		{within.Bounds{Lower: "c", Upper: "m"}, leaf("c", "l\xff"), true},
		{within.Bounds{Lower: "c", Upper: "m"}, leaf("b\xff", "d"), false},
		{within.Bounds{Lower: "c", Upper: "m"}, leaf("d", "m"), false},
		{within.Bounds{Lower: "c", Upper: "m"}, leaf("d", "n"), false},
		{within.Bounds{Lower: "c"}, leaf("c", "z"), true},
		{within.Bounds{Lower: "c"}, leaf("b"), false},
		{within.Bounds{Upper: "m"}, leaf("\x00", "l"), true},
		{within.Bounds{Upper: "m"}, leaf("m"), false},
		{within.Bounds{Lower: "c", Upper: "m"}, branch("c\x00", "l\xff"), true},
		{within.Bounds{Lower: "c", Upper: "m"}, branch("c", "d"), false},
		{within.Bounds{Lower: "c", Upper: "m"}, branch("b", "d"), false},
		{within.Bounds{Lower: "c", Upper: "m"}, branch("d", "m"), false},
		{within.Bounds{Lower: "c", Upper: "m"}, branch("d", "n"), false},
		{within.Bounds{Lower: "c"}, branch("c"), false},
		{within.Bounds{Upper: "m"}, branch("m"), false},
	} {
		if got := c.of.KeptBy(c.n); got != c.want {
			t.Errorf("%v are kept by %v: %t", c.of, c.n, got)
		}
	}
}

func TestHas(t *testing.T) {
	for _, c := range []struct {
		of        within.Bounds
		has, hasn []string
	}{
		{within.Bounds{}, []string{"", "\x00", "a", "\xff\xff"}, nil},
		{within.Bounds{Lower: "c"}, []string{"c", "c\x00", "\xff"}, []string{"", "b\xff"}},
		{within.Bounds{Upper: "m"}, []string{"", "\x00", "l\xff"}, []string{"m", "m\x00", "z"}},
		{within.Bounds{Lower: "c", Upper: "m"}, []string{"c", "l\xff"}, []string{"", "b\xff", "m", "z"}},
		{within.Bounds{Lower: "c", Upper: "c"}, nil, []string{"", "b", "c", "d"}},
		{within.Bounds{Lower: "m", Upper: "c"}, nil, []string{"", "b", "c", "d", "m", "z"}},
	} {
		for _, key := range c.has {
			if !c.of.Has(key) {
				t.Errorf("%q: %q does not lie there", c.of, key)
			}
		}
		for _, key := range c.hasn {
			if c.of.Has(key) {
				t.Errorf("%q: %q lies there", c.of, key)
			}
		}
	}
}

func TestMeets(t *testing.T) {
	for _, c := range []struct {
		a, b within.Bounds
		want bool
	}{
		{within.Bounds{}, within.Bounds{}, true},
		{within.Bounds{}, within.Bounds{Lower: "c", Upper: "m"}, true},
		{within.Bounds{Upper: "c"}, within.Bounds{Lower: "c"}, false},
		{within.Bounds{Upper: "c\x00"}, within.Bounds{Lower: "c"}, true},
		{within.Bounds{Lower: "a", Upper: "c"}, within.Bounds{Lower: "b", Upper: "d"}, true},
		{within.Bounds{Lower: "a", Upper: "b"}, within.Bounds{Lower: "b", Upper: "d"}, false},
		{within.Bounds{Lower: "a", Upper: "z"}, within.Bounds{Lower: "b", Upper: "d"}, true},
		{within.Bounds{Lower: "a", Upper: "b"}, within.Bounds{Lower: "x", Upper: "y"}, false},
		// Where no key can lie there, whether it meets others is told by the ends alone.
		{within.Bounds{Lower: "e", Upper: "d"}, within.Bounds{Lower: "c", Upper: "f"}, true},
		{within.Bounds{Lower: "z", Upper: "a"}, within.Bounds{Lower: "c", Upper: "f"}, false},
	} {
		if c.a.Meets(c.b) != c.want || c.b.Meets(c.a) != c.want {
			t.Errorf("%q and %q meet: %t, %t", c.a, c.b, c.a.Meets(c.b), c.b.Meets(c.a))
		}
	}
}
