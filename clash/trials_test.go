package clash_test

import (
	"fmt"
	"math/rand"
	"testing"

	"heartwood/api"
	"heartwood/clash"
	"heartwood/pack"
)

const highest = 300 // the numbers that trials' keys are made of are below it

// twinTree is another twig of the same digest as the one that a way leads to, grown between the same bounds. It answers nothing, if none is soon found.
func twinTree(t *testing.T, r *rand.Rand, f api.Frame, w *twig, way []int) *twig {
	t.Helper()
	of, lo, hi := at(w, 0, highest, way)
	sum := sumAt(t, f, of)
	for range 3000 {
		other := grow(r, f, lo, hi, 1+r.Intn(3))
		if len(other.Pairs)+len(other.Kids) == 0 {
			continue
		}
		if sumAt(t, f, other) == sum && !sameForm(t, f, other.Node, of.Node) {
			return other
		}
	}
	return nil
}

// trial are two twigs of one root digest that are unlike at some places, if such are found.
func trial(t *testing.T, r *rand.Rand, f api.Frame) (*twig, *twig) {
	t.Helper()
	one := grow(r, f, 0, highest, 1+r.Intn(5))
	for len(one.Pairs)+len(one.Kids) == 0 {
		one = grow(r, f, 0, highest, 1+r.Intn(5))
	}
	two := one
	for range r.Intn(4) {
		way := some(r, ways(two))
		if other := twinTree(t, r, f, two, way); other != nil {
			two = in(f, two, other, way...)
		}
	}
	if sumAt(t, f, one) != sumAt(t, f, two) {
		t.Fatalf("%v: unlike digests", f)
	}
	return one, two
}

// ends are texts by chance to ask for: keys that are there or near to such, and some that are none.
func ends(r *rand.Rand, keys []string) string {
	switch r.Intn(8) {
	case 0:
		return ""
	case 1, 2:
		return number(r.Intn(highest))
	case 3:
		return some(r, []string{"0", "\x00", "\xff", "zzz", "0150\x00"})
	}
	return some(r, keys) + some(r, []string{"", "", "", "\x00"})
}

// Trees by chance, with others of their digests in which some nodes are replaced by twins: whatever is asked, what is told is due.
func TestTrials(t *testing.T) {
	for i, f := range narrow() {
		t.Run(fmt.Sprint(f), func(t *testing.T) {
			t.Parallel()
			r := rand.New(rand.NewSource(int64(171 + i)))
			codes := map[string]int{}
			for range 150 {
				one, two := trial(t, r, f)
				p := newPair(t, f, one, two)
				codes["Trees "+p.holdsTo(t, "a trial").code.Error()]++
				newPair(t, f, two, one).holdsTo(t, "a trial")
				keys := append(keysOf(one), keysOf(two)...)
				for range 30 {
					p.asksOne(t, r, keys, codes)
				}
				p.spoilt(t, r, codes)
			}
			for what, least := range map[string]int{"Trees error 0": 90, "Trees error 171": 5, "Points error 0": 100, "Points error 171": 1000, "Spans error 0": 500, "Spans error 171": 500, "Mixed error 0": 100, "Mixed error 2": 500, "Mixed error 171": 500, "spoilt error 0": 20, "spoilt error 6": 10, "spoilt error 8": 20} {
				if codes[what] < least {
					t.Errorf("%s: only %d times", what, codes[what])
				}
			}
		})
	}
}

// asksOne asks for one key and one range by chance, in both orders.
func (p *pair) asksOne(t *testing.T, r *rand.Rand, keys []string, codes map[string]int) {
	t.Helper()
	f, root := p.x.Frame(), p.x.Root().Sum
	key, rg := ends(r, keys), keyRange{ends(r, keys), ends(r, keys)}
	if key == "" {
		key = some(r, keys)
	}
	if r.Intn(3) == 0 {
		rg.lo = key
	}
	a, b := ofKey(t, p.x, key), ofKey(t, p.y, key)
	x, y := ofRange(t, p.x, rg), ofRange(t, p.y, rg)
	what := fmt.Sprintf("%q %q", key, rg)
	points := func(a, b string) {
		got := tell(clash.Points(f, root, key, a, b))
		is(t, "Points "+what, f, got, tell(dueOfPoints(f, root, key, a, b)))
		codes["Points "+got.code.Error()]++
	}
	spans := func(x, y string) {
		got := tell(clash.Spans(f, root, rg.lo, rg.hi, x, y))
		is(t, "Spans "+what, f, got, tell(dueOfSpans(f, root, rg, x, y)))
		codes["Spans "+got.code.Error()]++
	}
	mixed := func(a, x string) {
		got := tell(clash.Mixed(f, root, key, a, rg.lo, rg.hi, x))
		is(t, "Mixed "+what, f, got, tell(dueOfMixed(f, root, key, a, rg, x)))
		codes["Mixed "+got.code.Error()]++
	}
	points(a, b)
	points(b, a)
	spans(x, y)
	spans(y, x)
	mixed(a, y)
	mixed(b, x)
	mixed(a, x)
	for _, bad := range []string{broken(r, a), broken(r, x)} {
		points(a, bad)
		points(bad, b)
		spans(bad, x)
		spans(y, bad)
		mixed(a, bad)
		mixed(bad, x)
	}
}

// broken are a proof's bytes, with some change by chance.
func broken(r *rand.Rand, proof string) string {
	b := []byte(proof)
	forms, _ := pack.Split(proof)
	switch i := r.Intn(len(b)); r.Intn(7) {
	case 0:
		b[i] ^= 1 << r.Intn(8)
	case 1:
		return proof[:i]
	case 2:
		return proof + some(r, []string{"\x00", proof, "x"})
	case 3:
		return pack.Join(forms[:len(forms)-1]...)
	case 4:
		return pack.Join(append(forms, some(r, forms))...)
	case 5:
		return pack.Join(append(forms, "\x01\x00")...)
	case 6:
		r.Shuffle(len(forms), func(i, k int) { forms[i], forms[k] = forms[k], forms[i] })
		return pack.Join(forms...)
	}
	return string(b)
}

// spoilt has some nodes of both sides be refused, missing or others.
func (p *pair) spoilt(t *testing.T, r *rand.Rand, codes map[string]int) {
	t.Helper()
	pages := append(pagesOf(p.x), pagesOf(p.y)...)
	for range 1 + r.Intn(2) {
		no, s := some(r, pages), p.s
		if no >= 1000 {
			s = p.t
		}
		switch r.Intn(4) {
		case 0:
			s.errs[no] = api.ErrIO
		case 1:
			delete(s.nodes, no)
		case 2:
			s.nodes[no] = api.Node{}
		case 3:
			s.nodes[no] = leaf("b=1", "a=2")
		}
	}
	codes["spoilt "+p.holdsTo(t, "spoilt").code.Error()]++
}
