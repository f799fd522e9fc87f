package graft_test

import (
	"strings"
	"testing"

	"heartwood/api"
	"heartwood/graft"
)

// The chapter's table.

// example answers the frame and the leaf l of the table.
func example() (api.Frame, api.Node) {
	return api.Frame{Page: 1024, Width: 32}, leaf("b", "1", "d", "2", "f", "3")
}

// pages answers a branch of kids on these pages.
func pages(seps []string, on ...uint32) api.Node {
	n := api.Node{Seps: seps}
	for _, p := range on {
		n.Kids = append(n.Kids, api.Kid{Page: p})
	}
	return n
}

func TestExamplesOfFinding(t *testing.T) {
	_, l := example()
	for key, want := range map[string]int{"d": 1, "e": 2, "": 0, "z": 3} {
		if i, is := graft.Find(l, key); i != want || is != (key == "d") {
			t.Error("Find", key, i, is)
		}
	}
	for key, want := range map[string]int{"b": 0, "c": 1, "e": 1, "f": 2, "z": 2} {
		if i := graft.Way(pages([]string{"c", "f"}, 5, 6, 7), key); i != want {
			t.Error("Way", key, i)
		}
	}
}

func TestExamplesOfPuts(t *testing.T) {
	f, l := example()
	for _, x := range []struct {
		p    api.Pair
		want api.Node
		had  bool
		e    api.Errno
	}{
		{api.Pair{Key: "c", Val: "9"}, leaf("b", "1", "c", "9", "d", "2", "f", "3"), false, api.OK},
		{api.Pair{Key: "d"}, leaf("b", "1", "d", "", "f", "3"), true, api.OK},
		{api.Pair{Val: "1"}, api.Node{}, false, api.ErrArg},
	} {
		if n, had, e := graft.Put(f, l, x.p); !alike(n, x.want) || had != x.had || e != x.e {
			t.Error("Put", x.p, n, had, e)
		}
	}
	if n, had, e := graft.Remove(f, l, "d"); !alike(n, leaf("b", "1", "f", "3")) || !had || e != api.OK {
		t.Error("Remove", n, had, e)
	}
	if n, had, e := graft.Remove(f, l, "e"); !alike(n, l) || had || e != api.OK {
		t.Error("Remove", n, had, e)
	}
	if n, had, e := graft.Remove(f, pages([]string{"c"}, 5, 6), "c"); !alike(n, api.Node{}) || had || e != api.ErrShape {
		t.Error("Remove", n, had, e)
	}
}

func TestExamplesOfBetween(t *testing.T) {
	for _, x := range []struct {
		left, right, want string
		e                 api.Errno
	}{
		{"apple", "apricot", "apr", api.OK},
		{"a", "ab", "ab", api.OK},
		{"", "zeta", "z", api.OK},
		{"b", "b", "", api.ErrOrder},
		{"c", "b", "", api.ErrOrder},
	} {
		if s, e := graft.Between(x.left, x.right); s != x.want || e != x.e {
			t.Error(x.left, x.right, s, e)
		}
	}
}

func TestExamplesOfSplit(t *testing.T) {
	f, l := example()
	h, e := graft.Split(f, l)
	if !same(h, api.Halves{Left: leaf("b", "1"), Sep: "d", Right: leaf("d", "2", "f", "3")}) || e != api.OK {
		t.Error(parts(f, h), e)
	}
	if h, e := graft.Split(f, leaf("b", "1")); !same(h, api.Halves{}) || e != api.ErrNoCut {
		t.Error(parts(f, h), e)
	}
	var got []cut
	for i, sides := range graft.Cuts(f, l) {
		got = append(got, cut{i, sides})
	}
	if len(got) != 2 || got[0] != (cut{1, [2]int{6, 10}}) || got[1] != (cut{2, [2]int{10, 6}}) {
		t.Error(got)
	}
	hundred := strings.Repeat("x", 100)
	h, e = graft.Split(f, leaf("aa", "", "ab", "", "ac", "", "ad", hundred))
	if !same(h, api.Halves{Left: leaf("aa", "", "ab", "", "ac", ""), Sep: "ad", Right: leaf("ad", hundred)}) || e != api.OK {
		t.Error(parts(f, h), e)
	}
}

func TestExamplesOfMerge(t *testing.T) {
	f, _ := example()
	for sep, want := range map[string]api.Errno{"c": api.OK, "d": api.OK, "b": api.ErrOrder, "e": api.ErrOrder} {
		h := api.Halves{Left: leaf("b", "1"), Sep: sep, Right: leaf("d", "2")}
		one := api.Node{}
		if want == api.OK {
			one = leaf("b", "1", "d", "2")
		}
		if n, e := graft.Merge(f, h); !alike(n, one) || e != want {
			t.Error("Merge", sep, n, e)
		}
		if m, is, e := graft.Mend(f, h); !same(m, api.Halves{Left: one}) || is != (want == api.OK) || e != want {
			t.Error("Mend", sep, parts(f, m), is, e)
		}
	}
}

func TestExamplesOfSplice(t *testing.T) {
	f, _ := example()
	n := pages([]string{"c", "f"}, 5, 6, 7)
	for _, x := range []struct {
		at, many int
		by, want api.Node
		e        api.Errno
	}{
		{1, 1, pages([]string{"d"}, 8, 9), pages([]string{"c", "d", "f"}, 5, 8, 9, 7), api.OK},
		{1, 1, pages([]string{"b"}, 8, 9), api.Node{}, api.ErrOrder},
		{1, 2, api.Node{}, api.Node{}, api.ErrArg},
		{0, 3, pages(nil, 8), api.Node{}, api.ErrArg},
		{2, 2, pages(nil, 8), api.Node{}, api.ErrArg},
	} {
		if m, e := graft.Splice(f, n, x.at, x.many, x.by.Kids, x.by.Seps); !alike(m, x.want) || e != x.e {
			t.Error(x.at, x.many, m, e)
		}
	}
}

func TestExamplesOfFullAndThin(t *testing.T) {
	f, _ := example()
	six := api.Node{}
	for _, c := range "abcdef" {
		six.Pairs = append(six.Pairs, api.Pair{Key: strings.Repeat(string(c), 64), Val: strings.Repeat("v", 128)})
	}
	if !graft.Thin(f, api.Node{}) || graft.Full(f, api.Node{}) || !graft.Full(f, six) || graft.Thin(f, six) {
		t.Error(graft.Thin(f, api.Node{}), graft.Full(f, api.Node{}), graft.Full(f, six), graft.Thin(f, six))
	}
}
