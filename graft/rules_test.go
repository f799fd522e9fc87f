package graft_test

import (
	"bytes"
	"maps"
	"slices"
	"testing"

	"heartwood/api"
	"heartwood/graft"
)

// What each call is to answer, by the words of the chapter and in another way than the program finds it.

func below(a, b string) bool { return bytes.Compare([]byte(a), []byte(b)) < 0 }

func dueFind(n api.Node, key string) (int, bool) {
	for i, p := range n.Pairs {
		if !below(p.Key, key) {
			return i, p.Key == key
		}
	}
	return len(n.Pairs), false
}

func dueWay(n api.Node, key string) int {
	i := 0
	for i < len(n.Seps) && !below(key, n.Seps[i]) {
		i++
	}
	return i
}

// shape answers the error of a frame, and then of a node that is to be right, and a leaf, or a branch, where that is asked.
func shape(f api.Frame, n api.Node, leaf, branch bool) api.Errno {
	if !mayBe(f) {
		return api.ErrArg
	}
	isLeaf := len(n.Kids) == 0 && len(n.Seps) == 0
	if !right(f, n) || leaf && !isLeaf || branch && isLeaf {
		return api.ErrShape
	}
	return api.OK
}

// leafFrom answers the leaf of a map's pairs.
func leafFrom(m map[string]string) api.Node {
	var n api.Node
	for _, k := range slices.SortedFunc(maps.Keys(m), func(a, b string) int { return bytes.Compare([]byte(a), []byte(b)) }) {
		n.Pairs = append(n.Pairs, api.Pair{Key: k, Val: m[k]})
	}
	return n
}

func mapOf(n api.Node) map[string]string {
	m := map[string]string{}
	for _, p := range n.Pairs {
		m[p.Key] = p.Val
	}
	return m
}

func duePut(f api.Frame, n api.Node, p api.Pair) (api.Node, bool, api.Errno) {
	if e := shape(f, n, true, false); e != api.OK {
		return api.Node{}, false, e
	}
	if !keyMayBe(f, p.Key) || len(p.Val) > mostVal(f) {
		return api.Node{}, false, api.ErrArg
	}
	m := mapOf(n)
	_, had := m[p.Key]
	m[p.Key] = p.Val
	return leafFrom(m), had, api.OK
}

func dueRemove(f api.Frame, n api.Node, key string) (api.Node, bool, api.Errno) {
	if e := shape(f, n, true, false); e != api.OK {
		return api.Node{}, false, e
	}
	m := mapOf(n)
	_, had := m[key]
	delete(m, key)
	return leafFrom(m), had, api.OK
}

func dueBetween(left, right string) (string, api.Errno) {
	for i := range len(right) + 1 {
		if below(left, right[:i]) {
			return right[:i], api.OK
		}
	}
	return "", api.ErrOrder
}

// row is a branch's kids and separators by turns, as they lie in its form.
type row []any

func rowOf(kids []api.Kid, seps []string) row {
	var r row
	for i, k := range kids {
		if i > 0 {
			r = append(r, seps[i-1])
		}
		r = append(r, k)
	}
	return r
}

func (r row) node() api.Node {
	var n api.Node
	for _, x := range r {
		switch x := x.(type) {
		case api.Kid:
			n.Kids = append(n.Kids, x)
		case string:
			n.Seps = append(n.Seps, x)
		}
	}
	return n
}

func dueSplice(f api.Frame, n api.Node, at, many int, kids []api.Kid, seps []string) (api.Node, api.Errno) {
	if e := shape(f, n, false, true); e != api.OK {
		return api.Node{}, e
	}
	if at < 0 || at > len(n.Kids) || many < 1 || many > len(n.Kids) || at+many > len(n.Kids) {
		return api.Node{}, api.ErrArg
	}
	if len(kids) == 0 || len(seps)+1 != len(kids) || len(n.Kids)+len(kids) < many+2 {
		return api.Node{}, api.ErrArg
	}
	out := slices.Replace(rowOf(n.Kids, n.Seps), 2*at, 2*(at+many)-1, rowOf(kids, seps)...).node()
	if !right(f, out) {
		return api.Node{}, api.ErrOrder
	}
	return out, api.OK
}

func dueFull(f api.Frame, n api.Node) bool {
	return shape(f, n, false, false) == api.OK && sizeOf(f, n) > room(f)
}

func dueThin(f api.Frame, n api.Node) bool {
	return shape(f, n, false, false) == api.OK && sizeOf(f, n) < least(f)
}

// cutAt answers both sides of a cut.
func cutAt(n api.Node, at int) api.Halves {
	if len(n.Kids) > 0 {
		left := api.Node{Kids: n.Kids[:at], Seps: n.Seps[:at-1]}
		return api.Halves{Left: left, Sep: n.Seps[at-1], Right: api.Node{Kids: n.Kids[at:], Seps: n.Seps[at:]}}
	}
	sep, _ := dueBetween(n.Pairs[at-1].Key, n.Pairs[at].Key)
	return api.Halves{Left: api.Node{Pairs: n.Pairs[:at]}, Sep: sep, Right: api.Node{Pairs: n.Pairs[at:]}}
}

// cut is one that Cuts tells.
type cut struct {
	at    int
	sides [2]int
}

func dueCuts(f api.Frame, n api.Node) []cut {
	if shape(f, n, false, false) != api.OK {
		return nil
	}
	from, to := 1, len(n.Pairs)-1
	if len(n.Kids) > 0 {
		from, to = 2, len(n.Kids)-2
	}
	var l []cut
	for i := from; i <= to; i++ {
		h := cutAt(n, i)
		l = append(l, cut{i, [2]int{sizeOf(f, h.Left), sizeOf(f, h.Right)}})
	}
	return l
}

func dueSplit(f api.Frame, n api.Node) (api.Halves, api.Errno) {
	if e := shape(f, n, false, false); e != api.OK {
		return api.Halves{}, e
	}
	cuts := dueCuts(f, n)
	if len(cuts) == 0 {
		return api.Halves{}, api.ErrNoCut
	}
	slices.SortStableFunc(cuts, func(a, b cut) int { return slices.Max(a.sides[:]) - slices.Max(b.sides[:]) })
	return cutAt(n, cuts[0].at), api.OK
}

// keysOf answers a leaf's keys, or a branch's separators.
func keysOf(n api.Node) []string {
	l := slices.Clone(n.Seps)
	for _, p := range n.Pairs {
		l = append(l, p.Key)
	}
	return l
}

func inOrder(f api.Frame, h api.Halves) bool {
	if !keyMayBe(f, h.Sep) {
		return false
	}
	for _, k := range keysOf(h.Left) {
		if !below(k, h.Sep) {
			return false
		}
	}
	for _, k := range keysOf(h.Right) {
		if below(k, h.Sep) || len(h.Right.Kids) > 0 && k == h.Sep {
			return false
		}
	}
	return true
}

// dueOne answers both halves made one, full or not.
func dueOne(f api.Frame, h api.Halves) (api.Node, api.Errno) {
	if !mayBe(f) {
		return api.Node{}, api.ErrArg
	}
	leaves := shape(f, h.Left, true, false) == api.OK && shape(f, h.Right, true, false) == api.OK
	branches := shape(f, h.Left, false, true) == api.OK && shape(f, h.Right, false, true) == api.OK
	if !leaves && !branches {
		return api.Node{}, api.ErrShape
	}
	if !inOrder(f, h) {
		return api.Node{}, api.ErrOrder
	}
	if leaves {
		m := mapOf(h.Left)
		maps.Copy(m, mapOf(h.Right))
		return leafFrom(m), api.OK
	}
	r := append(rowOf(h.Left.Kids, h.Left.Seps), h.Sep)
	return append(r, rowOf(h.Right.Kids, h.Right.Seps)...).node(), api.OK
}

func dueMerge(f api.Frame, h api.Halves) (api.Node, api.Errno) {
	n, e := dueOne(f, h)
	if e == api.OK && dueFull(f, n) {
		return api.Node{}, api.ErrFull
	}
	return n, e
}

func dueBorrow(f api.Frame, h api.Halves) (api.Halves, api.Errno) {
	n, e := dueOne(f, h)
	if e != api.OK {
		return api.Halves{}, e
	}
	return dueSplit(f, n)
}

func dueMend(f api.Frame, h api.Halves) (api.Halves, bool, api.Errno) {
	n, e := dueOne(f, h)
	if e == api.OK && !dueFull(f, n) {
		return api.Halves{Left: n}, true, api.OK
	}
	h, e = dueBorrow(f, h)
	return h, false, e
}

// Each of these calls once, complains if the answer is not what is due, if an argument or the room behind it was changed, or if what is written into the answer is seen in an argument; and answers the error.

func finds(t *testing.T, given api.Node, key string) {
	t.Helper()
	n, kept := roomy(given)
	i, is := graft.Find(n, key)
	if j, was := dueFind(n, key); i != j || is != was {
		t.Fatalf("Find of %q: %d %v, and not %d %v: %s", key, i, is, j, was, brief(api.Frame{}, n))
	}
	way := graft.Way(n, key)
	if want := dueWay(n, key); way != want {
		t.Fatalf("Way of %q: %d, and not %d: %s", key, way, want, brief(api.Frame{}, n))
	}
	if !kept() {
		t.Fatal("Find or Way changes", brief(api.Frame{}, n))
	}
}

func puts(t *testing.T, f api.Frame, given api.Node, p api.Pair) api.Errno {
	t.Helper()
	n, kept := roomy(given)
	got, had, e := graft.Put(f, n, p)
	want, was, due := duePut(f, given, p)
	if !alike(got, want) || had != was || e != due {
		t.Fatalf("Put of %.70q: %s %v %v, and not %s %v %v: %s", p, brief(f, got), had, e, brief(f, want), was, due, brief(f, n))
	}
	apart(t, "Put", kept, api.Halves{Left: got}, api.Halves{Left: want})
	return e
}

func removes(t *testing.T, f api.Frame, given api.Node, key string) api.Errno {
	t.Helper()
	n, kept := roomy(given)
	got, had, e := graft.Remove(f, n, key)
	want, was, due := dueRemove(f, given, key)
	if !alike(got, want) || had != was || e != due {
		t.Fatalf("Remove of %.70q: %s %v %v, and not %s %v %v: %s", key, brief(f, got), had, e, brief(f, want), was, due, brief(f, n))
	}
	apart(t, "Remove", kept, api.Halves{Left: got}, api.Halves{Left: want})
	return e
}

func betweens(t *testing.T, left, right string) api.Errno {
	t.Helper()
	got, e := graft.Between(left, right)
	if want, due := dueBetween(left, right); got != want || e != due {
		t.Fatalf("Between(%q, %q): %q %v, and not %q %v", left, right, got, e, want, due)
	}
	return e
}

func splices(t *testing.T, f api.Frame, given api.Node, at, many int, kids []api.Kid, seps []string) api.Errno {
	t.Helper()
	n, kept := roomy(given)
	others, keptOthers := roomy(api.Node{Kids: kids, Seps: seps})
	got, e := graft.Splice(f, n, at, many, others.Kids, others.Seps)
	want, due := dueSplice(f, given, at, many, kids, seps)
	if !alike(got, want) || e != due {
		t.Fatalf("Splice at %d, %d by %v %.70q: %s %v, and not %s %v: %s", at, many, kids, seps, brief(f, got), e, brief(f, want), due, brief(f, n))
	}
	apart(t, "Splice", func() bool { return kept() && keptOthers() }, api.Halves{Left: got}, api.Halves{Left: want})
	return e
}

func fullOrThin(t *testing.T, f api.Frame, given api.Node) (full, thin bool) {
	t.Helper()
	n, kept := roomy(given)
	full, thin = graft.Full(f, n), graft.Thin(f, n)
	if full != dueFull(f, n) || thin != dueThin(f, n) || !kept() {
		t.Fatalf("Full %v, Thin %v: %s", full, thin, brief(f, n))
	}
	return full, thin
}

func cuts(t *testing.T, f api.Frame, given api.Node) int {
	t.Helper()
	n, kept := roomy(given)
	var got []cut
	for i, sides := range graft.Cuts(f, n) {
		got = append(got, cut{i, sides})
	}
	if want := dueCuts(f, given); !slices.Equal(got, want) || !kept() {
		t.Fatalf("Cuts: %v, and not %v: %s", got, want, brief(f, n))
	}
	return len(got)
}

func splits(t *testing.T, f api.Frame, given api.Node) api.Errno {
	t.Helper()
	n, kept := roomy(given)
	got, e := graft.Split(f, n)
	want, due := dueSplit(f, given)
	if !same(got, want) || e != due {
		t.Fatalf("Split: %s %v, and not %s %v: %s", parts(f, got), e, parts(f, want), due, brief(f, n))
	}
	apart(t, "Split", kept, got, want)
	return e
}

// mends holds Merge, Borrow and Mend against what is due, and answers their errors.
func mends(t *testing.T, f api.Frame, given api.Halves) (merge, borrow, mend api.Errno) {
	t.Helper()
	roomyHalves := func() (api.Halves, func() bool) {
		left, keptLeft := roomy(given.Left)
		right, keptRight := roomy(given.Right)
		return api.Halves{Left: left, Sep: given.Sep, Right: right}, func() bool { return keptLeft() && keptRight() }
	}
	h, kept := roomyHalves()
	n, merge := graft.Merge(f, h)
	one, due := dueMerge(f, given)
	if !alike(n, one) || merge != due {
		t.Fatalf("Merge: %s %v, and not %s %v: %s", brief(f, n), merge, brief(f, one), due, parts(f, h))
	}
	apart(t, "Merge", kept, api.Halves{Left: n}, api.Halves{Left: one})
	h, kept = roomyHalves()
	got, borrow := graft.Borrow(f, h)
	want, due := dueBorrow(f, given)
	if !same(got, want) || borrow != due {
		t.Fatalf("Borrow: %s %v, and not %s %v: %s", parts(f, got), borrow, parts(f, want), due, parts(f, h))
	}
	apart(t, "Borrow", kept, got, want)
	h, kept = roomyHalves()
	got, is, mend := graft.Mend(f, h)
	want, was, due := dueMend(f, given)
	if !same(got, want) || is != was || mend != due {
		t.Fatalf("Mend: %s %v %v, and not %s %v %v: %s", parts(f, got), is, mend, parts(f, want), was, due, parts(f, h))
	}
	apart(t, "Mend", kept, got, want)
	return merge, borrow, mend
}

// apart complains, if what was handed in was changed, or if halves that were answered share memory with it or with one another: they are scribbled over, and so is the room behind them.
func apart(t *testing.T, what string, kept func() bool, got, want api.Halves) {
	t.Helper()
	if !kept() {
		t.Fatalf("%s changes what is handed in", what)
	}
	scribble(got.Left)
	if !kept() || !alike(got.Right, want.Right) {
		t.Fatalf("%s: what is written into the answer is seen elsewhere", what)
	}
	scribble(got.Right)
	if !kept() {
		t.Fatalf("%s: what is written into the answer's right node is seen in what was handed in", what)
	}
}
