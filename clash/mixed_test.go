package clash_test

import (
	"fmt"
	"testing"

	"heartwood/api"
	"heartwood/clash"
)

// A key at the range's lower end, at its upper one, below, above and inside; one that is there, and one that is not.
func TestMixedEnds(t *testing.T) {
	for _, f := range append(narrow(), api.Frame{Page: 1024, Width: 2}) {
		one := alone("0210=1", "0250=2")
		two := twin(t, f, one, func(i int) *twig { return alone(fmt.Sprintf("0210=x%d", i), "0240=2") })
		x, y := high(f, one), high(f, two)
		root := sumAt(t, f, x)
		for _, at := range []struct {
			key  string
			r    keyRange
			want api.Errno
		}{
			{"0210", keyRange{"0210", "0211"}, api.OK},
			{"0210", keyRange{"0210", "0210\x00"}, api.OK},
			{"0210", keyRange{"0100", "0210\x00"}, api.OK},
			{"0210", keyRange{"", ""}, api.OK},
			{"0210", keyRange{"", "0400"}, api.OK},
			{"0210", keyRange{"0205", ""}, api.OK},
			{"0250", keyRange{"0150", "0400"}, api.OK},
			{"0240", keyRange{"0240", ""}, api.OK},
			{"0210", keyRange{"", "0210"}, api.ErrArg},
			{"0210", keyRange{"0210\x00", ""}, api.ErrArg},
			{"0210", keyRange{"0100", "0205"}, api.ErrArg},
			{"0210", keyRange{"0220", "0300"}, api.ErrArg},
			{"0210", keyRange{"0210", "0210"}, api.ErrArg},
			{"0210", keyRange{"0300", "0100"}, api.ErrArg},
			{"0230", keyRange{"", ""}, api.ErrAlike},
			{"0230", keyRange{"0230", "0231"}, api.ErrAlike},
			{"0150", keyRange{"", "0300"}, api.ErrAlike},
			{"0500", keyRange{"0010", ""}, api.ErrAlike},
			{"0001", keyRange{"", ""}, api.ErrAlike},
		} {
			what := fmt.Sprintf("%q %q", at.key, at.r)
			if got := tell(clash.Mixed(f, root, at.key, ofKey(t, plant(t, f, x), at.key), at.r.lo, at.r.hi, ofRange(t, plant(t, f, y), at.r))); at.want == api.OK {
				clashes(t, what, f, got, one.Node, two.Node)
			} else {
				fails(t, what, f, got, at.want)
			}
			if got := tell(clash.Mixed(f, root, at.key, ofKey(t, plant(t, f, y), at.key), at.r.lo, at.r.hi, ofRange(t, plant(t, f, x), at.r))); at.want == api.OK {
				clashes(t, what, f, got, two.Node, one.Node)
			} else {
				fails(t, what, f, got, at.want)
			}
			own := at.want
			if own == api.OK {
				own = api.ErrAlike
			}
			fails(t, what+" of one tree", f, tell(clash.Mixed(f, root, at.key, ofKey(t, plant(t, f, x), at.key), at.r.lo, at.r.hi, ofRange(t, plant(t, f, x), at.r))), own)
		}
	}
}

// Clashes beside the key's way do not count, though the range's proof holds them; nor do they hide the one on it.
func TestMixedGoesTheKeysWay(t *testing.T) {
	for _, f := range narrow() {
		one, left, right := alone("0210=1"), alone("0150=1"), alone("0300=1")
		two := twin(t, f, one, func(i int) *twig { return alone(fmt.Sprintf("0210=x%d", i)) })
		l := twin(t, f, left, func(i int) *twig { return alone(fmt.Sprintf("0150=x%d", i)) })
		// A branch, so that what is to be gone by on the left is more than one form.
		r := twin(t, f, right, func(i int) *twig {
			return with(f, []string{"0310", fmt.Sprintf("0320%d", i)}, alone("0300=1"), alone("0310=1"), alone("0350=1"))
		})
		x := high(f, one)
		root := sumAt(t, f, x)
		y := in(f, in(f, high(f, two), l, 1, 1, 0), r, 1, 1, 2)
		for _, rg := range []keyRange{{"", ""}, {"0100", "0400"}, {"0150", ""}} {
			q := ofRange(t, plant(t, f, y), rg)
			clashes(t, "on the way", f, tell(clash.Mixed(f, root, "0210", ofKey(t, plant(t, f, x), "0210"), rg.lo, rg.hi, q)), one.Node, two.Node)
			clashes(t, "on the left", f, tell(clash.Mixed(f, root, "0150", ofKey(t, plant(t, f, x), "0150"), rg.lo, rg.hi, q)), left.Node, l.Node)
			clashes(t, "on the right", f, tell(clash.Mixed(f, root, "0310", ofKey(t, plant(t, f, x), "0310"), rg.lo, rg.hi, q)), right.Node, r.Node)
			fails(t, "behind it", f, tell(clash.Mixed(f, root, "0500", ofKey(t, plant(t, f, x), "0500"), rg.lo, rg.hi, ofRange(t, plant(t, f, y), rg))), outOr(rg, "0500", api.ErrAlike))
			fails(t, "the same by another way", f, tell(clash.Mixed(f, root, "0300", ofKey(t, plant(t, f, x), "0300"), rg.lo, rg.hi, q)), api.ErrAlike)
		}
		// The clash is to the right of a subtree with forms of its own.
		wide := in(f, in(f, x, r, 1, 1, 2), with(f, []string{"0499"}, alone("0450=1"), alone("0499=1")), 1, 2)
		end := alone("0499=1")
		other := twin(t, f, end, func(i int) *twig { return alone(fmt.Sprintf("0499=x%d", i)) })
		narrowed := in(f, wide, other, 1, 2, 1)
		for _, rg := range []keyRange{{"", ""}, {"0205", ""}, {"0499", ""}} {
			clashes(t, "far on the right", f, tell(clash.Mixed(f, sumAt(t, f, wide), "0499", ofKey(t, plant(t, f, wide), "0499"), rg.lo, rg.hi, ofRange(t, plant(t, f, narrowed), rg))), end.Node, other.Node)
		}
	}
}

// outOr is what is told of a key that may be out of a range.
func outOr(r keyRange, key string, code api.Errno) api.Errno {
	if !r.has(key) {
		return api.ErrArg
	}
	return code
}

// The empty tree's proofs against others of its digest.
func TestMixedOfTheEmptyTree(t *testing.T) {
	for _, f := range narrow() {
		none := &twig{}
		other := twin(t, f, none, func(i int) *twig { return alone(fmt.Sprintf("a=%d", i)) })
		root := sumAt(t, f, none)
		x, y := plant(t, f, none), plant(t, f, other)
		clashes(t, "the empty one ahead", f, tell(clash.Mixed(f, root, "a", ofKey(t, x, "a"), "", "", ofRange(t, y, keyRange{}))), api.Node{}, other.Node)
		clashes(t, "the empty one behind", f, tell(clash.Mixed(f, root, "a", ofKey(t, y, "a"), "", "", ofRange(t, x, keyRange{}))), other.Node, api.Node{})
		fails(t, "of neither", f, tell(clash.Mixed(f, root, "b", ofKey(t, y, "b"), "b", "", ofRange(t, x, keyRange{"b", ""}))), api.ErrAlike)
		fails(t, "itself", f, tell(clash.Mixed(f, root, "a", ofKey(t, x, "a"), "", "", ofRange(t, x, keyRange{}))), api.ErrAlike)
	}
}
