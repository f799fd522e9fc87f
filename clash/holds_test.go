package clash_test

import (
	"fmt"
	"strings"
	"testing"

	"heartwood/api"
	"heartwood/clash"
	"heartwood/sums"
)

// twoTexts are two unlike texts whose digests are alike in just so many bytes; each is made by make of a number.
func twoTexts(t *testing.T, width int, make func(i int) string) (string, string) {
	t.Helper()
	had := map[api.Digest]string{}
	for i := range 1 << 20 {
		s := make(i)
		d, _ := sums.Of(width, s)
		if x, is := had[d]; is && sums.Sum(x)[width] != sums.Sum(s)[width] {
			return x, s
		}
		had[d] = s
	}
	t.Fatalf("no two texts of one digest of %d bytes", width)
	return "", ""
}

// Texts that clash do so at their width and at each lesser one, and at no greater one; they may be any texts.
func TestHolds(t *testing.T) {
	for _, make := range []func(i int) string{
		func(i int) string { return fmt.Sprint(i) },
		func(i int) string { return strings.Repeat("\x00", i%7) + fmt.Sprint("leaf", i) },
		func(i int) string { return textOfForm(fmt.Sprintf("\x01\x01\x01a\x06%06d", i)) },
		func(i int) string { return textOfForm(fmt.Sprintf("\x01\x02\x01b\x06%06d\x01a\x00", i)) },
		func(i int) string { return strings.Repeat("long", 3000) + fmt.Sprint(i) },
	} {
		for width := 1; width <= 3; width++ {
			one, two := twoTexts(t, width, make)
			for _, f := range frames() {
				for f.Width = 1; f.Width <= 32; f.Width++ {
					want := f.Width <= width
					for _, c := range []api.Clash{{One: one, Two: two}, {One: two, Two: one}} {
						if clash.Holds(f, c) != want {
							t.Errorf("%v: %.40q: %t", f, c, !want)
						}
					}
					if f.Page > 1024 && f.Width > 4 {
						break
					}
				}
			}
		}
	}
}

// Texts that are alike, and texts of unlike digests, are no clash at whatever width.
func TestWhatDoesNotHold(t *testing.T) {
	long := strings.Repeat("x", 100000)
	for _, f := range frames() {
		for _, s := range []string{"", "a", "\x00", textOfForm("\x01\x00"), textOfForm("\x01\x01\x01a\x011"), long} {
			if clash.Holds(f, api.Clash{One: s, Two: strings.Clone(s)}) {
				t.Errorf("%v: %.20q and itself", f, s)
			}
			for i := range 300 {
				other := s + fmt.Sprint(i)
				a, b := sums.Sum(s), sums.Sum(other)
				if want := string(a[:f.Width]) == string(b[:f.Width]); clash.Holds(f, api.Clash{One: s, Two: other}) != want || f.Width > 4 && want {
					t.Errorf("%v: %.20q and %d: %t", f, s, i, !want)
				}
				if len(s) == len(long) && i > 2 {
					break
				}
			}
		}
		if clash.Holds(f, api.Clash{}) {
			t.Errorf("%v: the zero clash", f)
		}
	}
}

// In a frame that may not be nothing holds.
func TestHoldsInNoFrame(t *testing.T) {
	one, two := twoTexts(t, 1, func(i int) string { return fmt.Sprint(i) })
	for _, c := range []api.Clash{{One: one, Two: two}, {One: one, Two: one}, {}, {One: "a"}} {
		for _, f := range wrongFrames() {
			if clash.Holds(f, c) {
				t.Errorf("%v: %q", f, c)
			}
		}
	}
}
