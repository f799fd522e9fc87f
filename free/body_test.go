package free_test

import (
	"math"
	"math/rand"
	"slices"
	"strings"
	"testing"

	"heartwood/api"
	"heartwood/free"
)

// bodies complains, if Body answers something else.
func bodies(t *testing.T, what string, f api.Frame, want string, e api.Errno, next uint32, numbers ...uint32) {
	t.Helper()
	if s, got := free.Body(f, next, numbers...); s != want || got != e {
		t.Fatalf("Body of %s in %v: %d bytes, %v, and not %d bytes, %v", what, f, len(s), got, len(want), e)
	}
}

// reads complains, if FromBody does not read a body as that next page and those numbers.
func reads(t *testing.T, what string, f api.Frame, s string, next uint32, numbers ...uint32) {
	t.Helper()
	got, l, e := free.FromBody(f, s)
	if got != next || !slices.Equal(l, numbers) || e != api.OK {
		t.Fatalf("FromBody of %s in %v: %d, %d numbers, %v", what, f, got, len(l), e)
	}
}

// refuses complains, if FromBody does not answer that error, and nothing else.
func refuses(t *testing.T, what string, f api.Frame, s string, want api.Errno) {
	t.Helper()
	next, l, e := free.FromBody(f, s)
	if next != 0 || len(l) != 0 || e != want {
		t.Fatalf("FromBody of %s in %v: %d, %d numbers, %v, and not %v", what, f, next, len(l), e, want)
	}
}

// P9.1
func TestEntries(t *testing.T) {
	for _, f := range frames() {
		if n := free.Entries(f); n != entries(f) || n != (f.Page-40)/4 {
			t.Error("Entries", f, n)
		}
	}
	for _, f := range wrong() {
		if n := free.Entries(f); n != 0 {
			t.Error("Entries", f, n)
		}
	}
}

// P9.2, P9.3: bodies that may be.
func TestBodiesThere(t *testing.T) {
	for _, f := range frames() {
		n := entries(f)
		for what, numbers := range map[string][]uint32{
			"none":                 nil,
			"an empty list":        {},
			"the least":            {2},
			"the greatest":         {most - 1},
			"both":                 {2, most - 1},
			"neighbours":           {7, 8, 9, 10},
			"unlike in high bytes": {3, 0x103, 0x203, 0x1003},
			"N less one":           run(2, n-1),
			"N":                    run(2, n),
			"the greatest N":       run(uint32(most-n), n),
		} {
			for _, next := range []uint32{0, 2, 3, 7, 0x1234, most - 1} {
				bodies(t, what, f, form(next, numbers...), api.OK, next, numbers...)
				reads(t, what, f, form(next, numbers...), next, numbers...)
			}
		}
		if s, _ := free.Body(f, 2, run(2, n)...); len(s) != 8+4*n || len(s) > f.Page-32 || len(s) < f.Page-32-3 {
			t.Error("the longest body has", len(s), "bytes in", f)
		}
	}
}

// P9.2, P9.3: what Body refuses, FromBody does not read.
func TestBodiesRefused(t *testing.T) {
	for _, f := range frames() {
		n := entries(f)
		for what, numbers := range map[string][]uint32{
			"0":                       {0},
			"1":                       {1},
			"1 ahead":                 {1, 2},
			"one above the greatest":  {most},
			"one too great behind":    {2, 3, most},
			"a huge one":              {math.MaxUint32},
			"one from which all wrap": {2, 1 << 31, math.MaxUint32},
			"equal ones":              {5, 5},
			"equal ones behind":       {2, 3, 5, 9, 9},
			"falling ones":            {9, 5},
			"falling ones behind":     {2, 4, 6, 5},
			"rising, then back":       {2, 9, 3, 10},
			"one more than N":         run(2, n+1),
			"many more":               run(2, 5*n),
		} {
			for _, next := range []uint32{0, 2} {
				bodies(t, what, f, "", api.ErrArg, next, numbers...)
				refuses(t, what, f, form(next, numbers...), api.ErrList)
			}
		}
		for _, next := range []uint32{1, most, most + 1, 1 << 31, math.MaxUint32} {
			bodies(t, "a wrong next", f, "", api.ErrArg, next)
			bodies(t, "a wrong next", f, "", api.ErrArg, next, 5, 9)
			refuses(t, "a wrong next", f, form(next), api.ErrList)
			refuses(t, "a wrong next", f, form(next, 5, 9), api.ErrList)
		}
	}
}

// P9.3: bytes that are no body, by their length and by the count.
func TestBytesThatAreNoBody(t *testing.T) {
	for _, f := range sizes() {
		n := entries(f)
		for _, numbers := range [][]uint32{nil, {5}, {5, 9}, {3, 4, 5, 6}, run(2, n)} {
			for _, next := range []uint32{0, 3} {
				s := form(next, numbers...)
				refuses(t, "a byte too few", f, s[:len(s)-1], api.ErrList)
				refuses(t, "its last bytes alone", f, s[1:], api.ErrList)
				for _, more := range []string{"\x00", "\x00\x00\x00\x00", "\x00\x00\xff\xff", "x", strings.Repeat("\x00", 5000)} {
					refuses(t, "bytes too many", f, s+more, api.ErrList)
				}
				for _, many := range []uint32{0, 1, 2, 3, 4, 5, uint32(n), uint32(n) + 1, 1 << 16, 1 << 31, math.MaxUint32} {
					if many == uint32(len(numbers)) {
						continue
					}
					count := form(many)[:4]
					refuses(t, "another count", f, s[:4]+count+s[8:], api.ErrList)
				}
			}
		}
		for i := range 8 {
			refuses(t, "a beginning", f, form(0)[:i], api.ErrList)
			refuses(t, "a beginning", f, form(3, 5)[:i], api.ErrList)
		}
		refuses(t, "nothing", f, "", api.ErrList)
		refuses(t, "a page", f, strings.Repeat("\x00", f.Page), api.ErrList)
		refuses(t, "a lot", f, strings.Repeat("\xff", 1<<20), api.ErrList)
	}
}

// P9.2, P9.3: frames that may not be; their error comes ahead of what is wrong with a body.
func TestBodiesOfWrongFrames(t *testing.T) {
	for _, f := range wrong() {
		bodies(t, "nothing", f, "", api.ErrArg, 0)
		bodies(t, "two", f, "", api.ErrArg, 2, 5, 9)
		bodies(t, "all wrong", f, "", api.ErrArg, 1, 9, 5)
		for _, s := range []string{form(0), form(0, 5, 9), "", "x", form(1), form(0, 9, 5)} {
			refuses(t, "a body", f, s, api.ErrArg)
		}
	}
}

// A body of one frame is one of another, if its numbers are few enough there.
func TestBodiesOfAnotherFrame(t *testing.T) {
	for _, f := range frames() {
		for _, g := range frames() {
			s := form(0, run(2, entries(f))...)
			if entries(f) <= entries(g) {
				reads(t, "another frame's", g, s, 0, run(2, entries(f))...)
				continue
			}
			refuses(t, "another frame's", g, s, api.ErrList)
		}
	}
}

// P9.2, P9.3 by chance, against the words of the chapter; there and back.
func TestBodiesByChance(t *testing.T) {
	by := rand.New(rand.NewSource(92))
	for range 20000 {
		f := sizes()[by.Intn(4)]
		numbers := some(by, run(uint32(by.Intn(4)), by.Intn(9)))
		if by.Intn(4) > 0 {
			slices.Sort(numbers)
		}
		next := uint32(by.Intn(5))
		want, e := dueBody(f, next, numbers...)
		bodies(t, "numbers by chance", f, want, e, next, numbers...)
		if e == api.OK {
			reads(t, "numbers by chance", f, want, next, numbers...)
		}
		turned := []byte(form(next, numbers...))
		turned[by.Intn(len(turned))] ^= 1 << by.Intn(8)
		back, l, e := free.FromBody(f, string(turned))
		if e == api.ErrList {
			refuses(t, "bits by chance", f, string(turned), api.ErrList)
			continue
		}
		bodies(t, "what was read", f, string(turned), api.OK, back, l...)
	}
}

// P9.3: each body of two numbers or fewer out of a few, and nothing else, is read.
func TestAllSmallBodies(t *testing.T) {
	f := small()
	few := []uint32{0, 1, 2, 3, most - 1, most}
	for _, next := range few {
		for _, many := range []uint32{0, 1, 2, 3} {
			for _, a := range few {
				for _, b := range few {
					for _, length := range []int{8, 12, 16} {
						s := (form(next)[:4] + form(many)[:4] + form(a)[:4] + form(b)[:4])[:length]
						numbers := []uint32{a, b}[:length/4-2]
						want, e := dueBody(f, next, numbers...)
						if e == api.OK && want == s {
							reads(t, "a small one", f, s, next, numbers...)
							continue
						}
						refuses(t, "a small one", f, s, api.ErrList)
					}
				}
			}
		}
	}
}

func TestBodiesLeaveWhatIsHandedIn(t *testing.T) {
	f := small()
	g := &guard{}
	numbers := g.list([]uint32{5, 9, 700})
	s, _ := free.Body(f, 3, numbers...)
	free.Body(f, 1, numbers...)
	g.kept(t, "a list of numbers")
	_, one, _ := free.FromBody(f, s)
	_, two, _ := free.FromBody(f, s)
	scribble(one)
	g.spoil()
	if !slices.Equal(two, []uint32{5, 9, 700}) || s != form(3, 5, 9, 700) {
		t.Error("answers hang together", two, s)
	}
	reads(t, "the same again", f, s, 3, 5, 9, 700)
}
