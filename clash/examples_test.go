package clash_test

import (
	"fmt"
	"testing"

	"heartwood/api"
	"heartwood/clash"
)

// The chapter's table.
func TestExamples(t *testing.T) {
	f := api.Frame{Page: 1024, Width: 1}
	had := map[api.Digest]*twig{}
	var one, two *twig
	for i := 0; two == nil; i++ {
		w := alone(fmt.Sprintf("a=%d", i))
		sum := sumAt(t, f, w)
		if one = had[sum]; one != nil {
			two = w
		}
		had[sum] = w
	}
	x, y, root := plant(t, f, one), plant(t, f, two), sumAt(t, f, one)
	p, q := ofKey(t, x, "a"), ofKey(t, y, "a")
	fails(t, "Points(f, root, a, p, p)", f, tell(clash.Points(f, root, "a", p, p)), api.ErrAlike)
	fails(t, "Points(f, root, a, p, no bytes)", f, tell(clash.Points(f, root, "a", p, "")), api.ErrRefused)
	clashes(t, "Points(f, root, a, p, q)", f, tell(clash.Points(f, root, "a", p, q)), one.Node, two.Node)
	fails(t, "Mixed(f, root, a, p, b, c, q)", f, tell(clash.Mixed(f, root, "a", p, "b", "c", q)), api.ErrArg)
	fails(t, "Trees(t, t)", f, tell(clash.Trees(x, x)), api.ErrAlike)
	fails(t, "Trees(nil, t)", f, tell(clash.Trees(nil, x)), api.ErrNil)
}

// The clash of two leaves at the root, byte by byte.
func TestOneClashInBytes(t *testing.T) {
	f := api.Frame{Page: 1024, Width: 1}
	one := alone("a=1")
	two := twin(t, f, one, func(i int) *twig { return alone(fmt.Sprintf("a=%c", 'A'+i)) })
	c, e := clash.Points(f, sumAt(t, f, one), "a", ofKey(t, plant(t, f, one), "a"), ofKey(t, plant(t, f, two), "a"))
	val := two.Pairs[0].Val
	want := api.Clash{One: "\x04leaf\x00\x00\x00\x06\x01\x01\x01a\x011", Two: "\x04leaf\x00\x00\x00" + string(rune(5+len(val))) + "\x01\x01\x01a" + string(rune(len(val))) + val}
	if c != want || e != api.OK {
		t.Errorf("%q %v, and not %q", c, e, want)
	}
}
