package clash_test

import (
	"fmt"
	"testing"

	"heartwood/api"
	"heartwood/clash"
)

// Two leaves at the root: ranges in which they are unlike, and such in which they are alike.
func TestSpansOfTwoLeaves(t *testing.T) {
	for _, f := range append(narrow(), api.Frame{Page: 1024, Width: 2}) {
		one := alone("a=1", "b=2", "d=4")
		two := twin(t, f, one, func(i int) *twig { return alone("a=1", fmt.Sprintf("b=%d", i), "d=4", "e=") })
		root := sumAt(t, f, one)
		for r, same := range map[keyRange]bool{
			{"", ""}: false, {"b", "c"}: false, {"a", "b\x00"}: false, {"", "f"}: false, {"d", ""}: false, {"e", "e\x00"}: false,
			{"", "b"}: true, {"b\x00", "e"}: true, {"c", "d"}: true, {"f", ""}: true, {"d", "d"}: true, {"z", "a"}: true, {"e", "b"}: true,
		} {
			what := fmt.Sprintf("%q", r)
			p, q := ofRange(t, plant(t, f, one), r), ofRange(t, plant(t, f, two), r)
			if same {
				fails(t, what, f, tell(clash.Spans(f, root, r.lo, r.hi, p, q)), api.ErrAlike)
				fails(t, what, f, tell(clash.Spans(f, root, r.lo, r.hi, q, p)), api.ErrAlike)
				continue
			}
			clashes(t, what, f, tell(clash.Spans(f, root, r.lo, r.hi, p, q)), one.Node, two.Node)
			clashes(t, what, f, tell(clash.Spans(f, root, r.lo, r.hi, q, p)), two.Node, one.Node)
			fails(t, what, f, tell(clash.Spans(f, root, r.lo, r.hi, q, q)), api.ErrAlike)
		}
	}
}

// Unlike nodes below like ones; a branch whose kids the one proof holds where the other has a leaf, or fewer kids of the range, or none but one.
func TestSpansBelow(t *testing.T) {
	for _, f := range append(narrow(), api.Frame{Page: 2048, Width: 2}) {
		one := alone("0210=1", "0250=2")
		left, right := alone("0205=7"), alone("0250=2")
		for what, make := range map[string]func(i int) *twig{
			"two leaves":          func(i int) *twig { return alone(fmt.Sprintf("0210=x%d", i), "0250=2") },
			"a leaf and a branch": func(i int) *twig { return with(f, []string{fmt.Sprintf("0207%d", i)}, left, right) },
			"a higher branch": func(i int) *twig {
				return with(f, []string{fmt.Sprintf("0220%d", i)}, with(f, []string{"0207"}, left, alone("0210=3")), right)
			},
		} {
			two := twin(t, f, one, make)
			x, y := high(f, one), high(f, two)
			root := sumAt(t, f, x)
			for r, same := range map[keyRange]bool{
				{"", ""}: false, {"0210", "0220"}: false, {"", "0215"}: false, {"0150", "0300\x00"}: false, {"0010", "0300"}: false,
				{"", "0200"}: true, {"0250", ""}: true, {"0300", "0400"}: true, {"0220", "0251"}: true, {"0210", "0210"}: true, {"0400", "0010"}: true,
			} {
				what := fmt.Sprintf("%s: %q", what, r)
				p, q := ofRange(t, plant(t, f, x), r), ofRange(t, plant(t, f, y), r)
				if same {
					fails(t, what, f, tell(clash.Spans(f, root, r.lo, r.hi, p, q)), api.ErrAlike)
					continue
				}
				clashes(t, what, f, tell(clash.Spans(f, root, r.lo, r.hi, p, q)), one.Node, two.Node)
				clashes(t, what, f, tell(clash.Spans(f, root, r.lo, r.hi, q, p)), two.Node, one.Node)
			}
		}
	}
}

// Several clashes: of two beside one another the left one counts, of two that hang from one another the upper one. Behind unlike nodes that say the same there is one that counts.
func TestTheFirstOfTwoSpans(t *testing.T) {
	for _, f := range narrow() {
		one, left := alone("0210=1"), alone("0150=1")
		two := twin(t, f, one, func(i int) *twig { return alone(fmt.Sprintf("0210=x%d", i)) })
		other := twin(t, f, left, func(i int) *twig { return alone(fmt.Sprintf("0150=x%d", i)) })
		x := high(f, one)
		root := sumAt(t, f, x)
		y := in(f, high(f, two), other, 1, 1, 0)
		all := keyRange{}
		p, q := ofRange(t, plant(t, f, x), all), ofRange(t, plant(t, f, y), all)
		clashes(t, "the left one", f, tell(clash.Spans(f, root, "", "", p, q)), left.Node, other.Node)
		behind := keyRange{"0200", ""}
		p, q = ofRange(t, plant(t, f, x), behind), ofRange(t, plant(t, f, y), behind)
		clashes(t, "the right one alone", f, tell(clash.Spans(f, root, "0200", "", p, q)), one.Node, two.Node)
		// The left one, though the pairs are unlike by the right one alone: a branch in a leaf's place, of the same pairs.
		wide := with(f, []string{"0120"}, alone("0110=1"), alone("0150=1"))
		pairs := alone("0110=1", "0150=1")
		same := twinAbove(t, f, wide, pairs)
		x, y = in(f, high(f, one), same[0], 1, 1, 0), in(f, high(f, two), same[1], 1, 1, 0)
		root = sumAt(t, f, x)
		p, q = ofRange(t, plant(t, f, x), all), ofRange(t, plant(t, f, y), all)
		clashes(t, "one that says the same", f, tell(clash.Spans(f, root, "", "", p, q)), same[0].Node, same[1].Node)
		p, q = ofRange(t, plant(t, f, x), keyRange{"", "0200"}), ofRange(t, plant(t, f, y), keyRange{"", "0200"})
		fails(t, "that one alone", f, tell(clash.Spans(f, root, "", "0200", p, q)), api.ErrAlike)
	}
}

// twinAbove are two twigs of one digest and the same pairs, a branch like the one and a leaf like the other, with some value made to fit.
func twinAbove(t *testing.T, f api.Frame, branch, leaf *twig) [2]*twig {
	t.Helper()
	for i := range 1 << 16 {
		low, top := branch.under[0].Pairs[0], branch.under[1].Pairs[0]
		top.Val = fmt.Sprint(i)
		b := with(f, branch.Seps, alone(low.Key+"="+low.Val), alone(top.Key+"="+top.Val))
		l := alone(leaf.Pairs[0].Key+"="+leaf.Pairs[0].Val, top.Key+"="+top.Val)
		if sumAt(t, f, b) == sumAt(t, f, l) {
			return [2]*twig{b, l}
		}
	}
	t.Fatalf("%v: no two of one digest", f)
	return [2]*twig{}
}

// The empty leaf, and others of its digest.
func TestSpansOfTheEmptyTree(t *testing.T) {
	for _, f := range narrow() {
		none := &twig{}
		other := twin(t, f, none, func(i int) *twig { return alone(fmt.Sprintf("a=%d", i)) })
		high := twin(t, f, none, func(i int) *twig {
			return with(f, []string{"b", fmt.Sprint("c", i)}, other, alone("b=1"), alone("d=1"))
		})
		root := sumAt(t, f, none)
		for _, r := range []keyRange{{"", ""}, {"a", "b"}, {"", "a\x00"}} {
			p, q, z := ofRange(t, plant(t, f, none), r), ofRange(t, plant(t, f, other), r), ofRange(t, plant(t, f, high), r)
			clashes(t, "the empty one ahead", f, tell(clash.Spans(f, root, r.lo, r.hi, p, q)), api.Node{}, other.Node)
			clashes(t, "the empty one behind", f, tell(clash.Spans(f, root, r.lo, r.hi, z, p)), high.Node, api.Node{})
			want := api.ErrAlike
			if r.hi == "" {
				want = api.OK
			}
			if got := tell(clash.Spans(f, root, r.lo, r.hi, q, z)); got.code != want {
				t.Errorf("%v: %q: %s", f, r, got.short())
			}
			fails(t, "the empty one and itself", f, tell(clash.Spans(f, root, r.lo, r.hi, p, p)), api.ErrAlike)
		}
		p, z := ofRange(t, plant(t, f, none), keyRange{"x", "c"}), ofRange(t, plant(t, f, high), keyRange{"x", "c"})
		fails(t, "no key", f, tell(clash.Spans(f, root, "x", "c", p, z)), api.ErrAlike)
	}
}
