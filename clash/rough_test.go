package clash_test

import (
	"fmt"
	"math/rand"
	"strings"
	"testing"

	"heartwood/api"
	"heartwood/clash"
	"heartwood/pack"
)

// question is what Points, Spans and Mixed are asked: of a key, of a range, and of proofs of each.
type question struct {
	key  string
	r    keyRange
	p, q string // the key's
	x, y string // the range's
}

// toldOf is what the three calls answer in a frame under a root.
func (a question) toldOf(f api.Frame, root api.Digest) map[string]told {
	return map[string]told{
		"Points": tell(clash.Points(f, root, a.key, a.p, a.q)),
		"Spans":  tell(clash.Spans(f, root, a.r.lo, a.r.hi, a.x, a.y)),
		"Mixed":  tell(clash.Mixed(f, root, a.key, a.p, a.r.lo, a.r.hi, a.y)),
	}
}

// says complains, if not just these errors are told by Points, Spans and Mixed.
func (a question) says(t *testing.T, what string, f api.Frame, root api.Digest, points, spans, mixed api.Errno) {
	t.Helper()
	got := a.toldOf(f, root)
	fails(t, "Points: "+what, f, got["Points"], points)
	fails(t, "Spans: "+what, f, got["Spans"], spans)
	fails(t, "Mixed: "+what, f, got["Mixed"], mixed)
}

// three is a branch of three leaves, and what is asked of it.
func three(t *testing.T, f api.Frame) (*twig, api.Digest, question) {
	t.Helper()
	w := with(f, []string{"d", "g"}, alone("a=1"), alone("e=1", "f=2"), alone("g=1"))
	x, r := plant(t, f, w), keyRange{"d", "h"}
	p, q := ofKey(t, x, "e"), ofRange(t, x, r)
	return w, sumAt(t, f, w), question{"e", r, p, p, q, q}
}

// badly are bytes that prove nothing, some of them made out of such as do.
func badly(good string) []string {
	forms := texts(good)
	return []string{"", "\x00", "x", good[1:], good[:len(good)-1], good + "\x00", good + good, strings.Repeat("\xff", 1000), pack.Join(forms[1:]...), pack.Join(append(forms, "\x01\x00")...), pack.Join("\x01\x00")}
}

// What is accepted, in every frame: it says the same as itself.
func TestAlikeInEveryFrame(t *testing.T) {
	for _, f := range frames() {
		_, root, a := three(t, f)
		a.says(t, "all is well", f, root, api.ErrAlike, api.ErrAlike, api.ErrAlike)
	}
}

// One of the proofs is refused, or both are: wherever it stands.
func TestProofsThatAreRefused(t *testing.T) {
	for _, f := range frames() {
		w, root, good := three(t, f)
		for _, bad := range badly(good.p) {
			a := good
			a.p, a.y = bad, good.y
			a.says(t, fmt.Sprintf("p is %.20q", bad), f, root, api.ErrRefused, api.ErrAlike, api.ErrRefused)
			a.q = bad
			a.says(t, fmt.Sprintf("both are %.20q", bad), f, root, api.ErrRefused, api.ErrAlike, api.ErrRefused)
			a.p = good.p
			a.says(t, fmt.Sprintf("q is %.20q", bad), f, root, api.ErrRefused, api.ErrAlike, api.ErrAlike)
		}
		for _, bad := range badly(good.x) {
			a := good
			a.x = bad
			a.says(t, fmt.Sprintf("p is %.20q", bad), f, root, api.ErrAlike, api.ErrRefused, api.ErrAlike)
			a.y = bad
			a.says(t, fmt.Sprintf("both are %.20q", bad), f, root, api.ErrAlike, api.ErrRefused, api.ErrRefused)
			a.x = good.x
			a.says(t, fmt.Sprintf("q is %.20q", bad), f, root, api.ErrAlike, api.ErrRefused, api.ErrRefused)
		}
		// Proofs of other questions are none of this one, and a key's proof is none of a range.
		x := plant(t, f, w)
		a := good
		a.q, a.y = ofKey(t, x, "a"), ofRange(t, x, keyRange{})
		a.says(t, "of another key, of another range", f, root, api.ErrRefused, api.ErrRefused, api.ErrRefused)
		a = question{"e", good.r, good.x, good.p, good.p, good.x}
		a.says(t, "each in the other's place", f, root, api.ErrRefused, api.ErrRefused, api.ErrRefused)
		// Under another root nothing is accepted.
		other := sumAt(t, f, alone("no=such"))
		if other != root {
			good.says(t, "another root", f, other, api.ErrRefused, api.ErrRefused, api.ErrRefused)
		}
	}
}

// A frame that may not be, a root that does not fit: ahead of whatever else there is.
func TestWhatMayNotBeAsked(t *testing.T) {
	f := api.Frame{Page: 1024, Width: 1}
	_, root, good := three(t, f)
	all := []question{good}
	for _, bad := range badly(good.p) {
		all = append(all, question{good.key, good.r, bad, good.q, bad, good.y}, question{good.key, good.r, good.p, bad, good.x, bad}, question{good.key, keyRange{"z", "b"}, bad, bad, bad, bad}, question{"", good.r, bad, good.p, good.x, good.y})
	}
	for _, a := range all {
		for _, off := range wrongFrames() {
			a.says(t, "the frame", off, root, api.ErrArg, api.ErrArg, api.ErrArg)
			a.says(t, "the frame", off, api.Digest{}, api.ErrArg, api.ErrArg, api.ErrArg)
		}
		for _, f := range frames() {
			for at := f.Width; at < len(root); at++ {
				off := api.Digest{root[0]}
				off[at] = 1
				a.says(t, "the root", f, off, api.ErrArg, api.ErrArg, api.ErrArg)
			}
		}
	}
}

// Keys that no pair may have, and such as lie out of the range: ahead of proofs that are refused, whichever of them it is.
func TestKeysThatMayNotBeAsked(t *testing.T) {
	for _, f := range frames() {
		w, root, good := three(t, f)
		long := strings.Repeat("e", f.Page/16)
		for _, key := range []string{"", long + "e", long + long, strings.Repeat("e", 100000)} {
			for _, bad := range append(badly(good.p), good.p) {
				a := question{key, good.r, good.p, bad, good.x, good.y}
				a.says(t, "the key", f, root, api.ErrArg, api.ErrAlike, api.ErrArg)
				a = question{key, keyRange{}, bad, good.p, ofRange(t, plant(t, f, w), keyRange{}), bad}
				a.says(t, "the key", f, root, api.ErrArg, api.ErrRefused, api.ErrArg)
			}
		}
		// The longest key there may be is asked like any other.
		x := plant(t, f, w)
		p := ofKey(t, x, long)
		a := question{long, good.r, p, p, good.x, good.y}
		a.says(t, "the longest key", f, root, api.ErrAlike, api.ErrAlike, api.ErrAlike)
		for _, r := range []keyRange{{"e\x00", ""}, {"", "e"}, {"e", "e"}, {"g", "a"}, {"f", "h"}, {"a", "b"}, {long, ""}} {
			q := ofRange(t, x, r)
			for _, bad := range append(badly(good.p), good.p) {
				fails(t, fmt.Sprintf("e in %.20q", r), f, tell(clash.Mixed(f, root, "e", bad, r.lo, r.hi, q)), api.ErrArg)
				fails(t, fmt.Sprintf("e in %.20q", r), f, tell(clash.Mixed(f, root, "e", good.p, r.lo, r.hi, bad)), api.ErrArg)
				fails(t, fmt.Sprintf("e in %.20q", r), f, tell(clash.Mixed(f, root, "e", bad, r.lo, r.hi, bad)), api.ErrArg)
			}
		}
		// Ends of a range may be any texts.
		for _, r := range []keyRange{{"", long + long}, {"\x00", strings.Repeat("\xff", 100000)}, {strings.Repeat("\x00", 100000), "\xff"}} {
			q := ofRange(t, x, r)
			fails(t, "long ends", f, tell(clash.Spans(f, root, r.lo, r.hi, q, q)), api.ErrAlike)
			fails(t, "long ends", f, tell(clash.Mixed(f, root, "e", good.p, r.lo, r.hi, q)), api.ErrAlike)
		}
	}
}

// Bytes by chance, alone and in the place of good ones: no call panics, and none tells a clash.
func TestBytesByChance(t *testing.T) {
	t.Parallel()
	r := rand.New(rand.NewSource(172))
	for _, f := range frames() {
		_, root, good := three(t, f)
		text := func() string {
			switch b := make([]byte, r.Intn(200)); r.Intn(4) {
			case 0:
				r.Read(b)
				return string(b)
			case 1:
				return broken(r, good.p)
			case 2:
				return broken(r, good.x)
			}
			return pack.Join(some(r, texts(good.x)), some(r, texts(good.p)))
		}
		for range 300 {
			key, ends := some(r, []string{"e", "d", "g", text()}), keyRange{some(r, []string{"", "d", text()}), some(r, []string{"", "h", text()})}
			a := question{key, ends, text(), text(), text(), text()}
			under := root
			if r.Intn(4) == 0 {
				r.Read(under[:])
			}
			got := a.toldOf(f, under)
			is(t, "Points", f, got["Points"], tell(dueOfPoints(f, under, a.key, a.p, a.q)))
			is(t, "Spans", f, got["Spans"], tell(dueOfSpans(f, under, a.r, a.x, a.y)))
			is(t, "Mixed", f, got["Mixed"], tell(dueOfMixed(f, under, a.key, a.p, a.r, a.y)))
		}
	}
}
