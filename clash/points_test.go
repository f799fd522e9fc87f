package clash_test

import (
	"fmt"
	"testing"

	"heartwood/api"
	"heartwood/clash"
)

// high is a twig of four levels over a twig below the separators 0200 and 0300, of keys from there on.
func high(f api.Frame, w *twig) *twig {
	low := with(f, []string{"0200", "0300"}, alone("0150=1"), w, alone("0300=1"))
	mid := with(f, []string{"0100", "0400"}, alone("0050=1"), low, alone("0500=1"))
	return with(f, []string{"0010"}, alone("0001=1"), mid)
}

// Two leaves at the root, in both orders: which text is One and which is Two.
func TestPointsOfTwoLeaves(t *testing.T) {
	for _, f := range append(narrow(), api.Frame{Page: 1024, Width: 2}) {
		one := alone("a=1", "b=2", "d=4")
		two := twin(t, f, one, func(i int) *twig { return alone("a=1", fmt.Sprintf("b=%d", i), "c=3") })
		root := sumAt(t, f, one)
		for key, same := range map[string]bool{"a": true, "b": false, "c": false, "d": false, "e": true, "0": true, "\xff": true} {
			p, q := ofKey(t, plant(t, f, one), key), ofKey(t, plant(t, f, two), key)
			if same {
				fails(t, key, f, tell(clash.Points(f, root, key, p, q)), api.ErrAlike)
				fails(t, key, f, tell(clash.Points(f, root, key, q, p)), api.ErrAlike)
				continue
			}
			clashes(t, key, f, tell(clash.Points(f, root, key, p, q)), one.Node, two.Node)
			clashes(t, key, f, tell(clash.Points(f, root, key, q, p)), two.Node, one.Node)
			fails(t, key, f, tell(clash.Points(f, root, key, p, p)), api.ErrAlike)
			fails(t, key, f, tell(clash.Points(f, root, key, q, q)), api.ErrAlike)
		}
	}
}

// Unlike leaves at the bottom of a way of four levels, and unlike branches in its midst; likewise in the same tree as a leaf in a branch's place.
func TestPointsBelow(t *testing.T) {
	for _, f := range append(narrow(), api.Frame{Page: 2048, Width: 2}) {
		one := alone("0210=1", "0250=2")
		left, right := alone("0200=7"), alone("0240=8", "0250=9")
		for what, make := range map[string]func(i int) *twig{
			"two leaves":          func(i int) *twig { return alone("0205=1", fmt.Sprintf("0250=x%d", i)) },
			"one without the key": func(i int) *twig { return alone("0205=1", fmt.Sprintf("0260=%d", i)) },
			"a leaf and a branch": func(i int) *twig { return with(f, []string{fmt.Sprintf("0230%d", i)}, left, right) },
		} {
			two := twin(t, f, one, make)
			x, y := high(f, one), high(f, two)
			root := sumAt(t, f, x)
			p, q := ofKey(t, plant(t, f, x), "0250"), ofKey(t, plant(t, f, y), "0250")
			clashes(t, what, f, tell(clash.Points(f, root, "0250", p, q)), one.Node, two.Node)
			clashes(t, what, f, tell(clash.Points(f, root, "0250", q, p)), two.Node, one.Node)
			// Ways that do not go there say the same, and so do unlike ways.
			for _, key := range []string{"0001", "0050", "0150", "0300", "0500", "0270", "0201"} {
				p, q := ofKey(t, plant(t, f, x), key), ofKey(t, plant(t, f, y), key)
				fails(t, what+" "+key, f, tell(clash.Points(f, root, key, p, q)), api.ErrAlike)
			}
		}
	}
}

// Branches of one digest whose ways of a key go to unlike kids, be they the first or the last.
func TestPointsOfTwoBranches(t *testing.T) {
	for _, f := range narrow() {
		one := with(f, []string{"0220"}, alone("0210=1"), alone("0230=1"))
		for what, make := range map[string]func(i int) *twig{
			"other kids, the same separator": func(i int) *twig {
				return with(f, []string{"0220"}, alone(fmt.Sprintf("0210=x%d", i%300)), alone(fmt.Sprintf("0230=%d", i)))
			},
			"more kids": func(i int) *twig {
				return with(f, []string{"0205", fmt.Sprintf("0220%d", i)}, alone("0201=1"), alone("0210=3"), alone("0299=1"))
			},
			"another separator": func(i int) *twig {
				return with(f, []string{fmt.Sprintf("0209%d", i)}, alone("0201=1"), alone("0210=4"))
			},
		} {
			two := twin(t, f, one, make)
			x, y := high(f, one), high(f, two)
			root := sumAt(t, f, x)
			p, q := ofKey(t, plant(t, f, x), "0210"), ofKey(t, plant(t, f, y), "0210")
			clashes(t, what, f, tell(clash.Points(f, root, "0210", p, q)), one.Node, two.Node)
			clashes(t, what, f, tell(clash.Points(f, root, "0210", q, p)), two.Node, one.Node)
		}
	}
}

// Two clashes on one way: the upper one counts, though the answers are unlike by the lower one.
func TestTheFirstOfTwoPoints(t *testing.T) {
	for _, f := range narrow() {
		one := alone("0210=1")
		two := twin(t, f, one, func(i int) *twig { return alone(fmt.Sprintf("0210=x%d", i)) })
		above := with(f, []string{"0220", "0230"}, one, alone("0220=1"), alone("0230=1"))
		other := twin(t, f, above, func(i int) *twig {
			return with(f, []string{"0220", fmt.Sprintf("0230%d", i)}, two, alone("0220=1"), alone("0260=1"))
		})
		x, y := high(f, above), high(f, other)
		root := sumAt(t, f, x)
		p, q := ofKey(t, plant(t, f, x), "0210"), ofKey(t, plant(t, f, y), "0210")
		clashes(t, "the upper one", f, tell(clash.Points(f, root, "0210", p, q)), above.Node, other.Node)
		// With like branches above it is the lower one.
		z := high(f, in(f, above, two, 0))
		clashes(t, "the lower one", f, tell(clash.Points(f, root, "0210", p, ofKey(t, plant(t, f, z), "0210"))), one.Node, two.Node)
	}
}

// The empty leaf, and another of its digest: what is there in the one is not in the other.
func TestPointsOfTheEmptyTree(t *testing.T) {
	for _, f := range narrow() {
		none := &twig{}
		other := twin(t, f, none, func(i int) *twig { return alone(fmt.Sprintf("a=%d", i)) })
		high := twin(t, f, none, func(i int) *twig {
			return with(f, []string{"b", fmt.Sprint("c", i)}, other, alone("b=1"), alone("d=1"))
		})
		root := sumAt(t, f, none)
		p, q, z := ofKey(t, plant(t, f, none), "a"), ofKey(t, plant(t, f, other), "a"), ofKey(t, plant(t, f, high), "a")
		clashes(t, "the empty one ahead", f, tell(clash.Points(f, root, "a", p, q)), api.Node{}, other.Node)
		clashes(t, "the empty one behind", f, tell(clash.Points(f, root, "a", q, p)), other.Node, api.Node{})
		clashes(t, "a branch", f, tell(clash.Points(f, root, "a", z, p)), high.Node, api.Node{})
		fails(t, "unlike ways to one answer", f, tell(clash.Points(f, root, "a", q, z)), api.ErrAlike)
		fails(t, "the empty one and itself", f, tell(clash.Points(f, root, "a", p, p)), api.ErrAlike)
	}
}
