package sums_test

import (
	"encoding/hex"
	"math"
	"slices"
	"strconv"
	"strings"
	"testing"

	"heartwood/api"
	"heartwood/sums"
)

// wrong are widths that no digest has.
var wrong = []int{math.MinInt, -1, 0, 33, 256 + 8, math.MaxInt}

// ones answers a digest of so many bytes 255, then bytes 0.
func ones(n int) api.Digest {
	var d api.Digest
	for i := range n {
		d[i] = 255
	}
	return d
}

func TestText(t *testing.T) {
	tag64, tag65 := strings.Repeat("t", 64), strings.Repeat("t", 65)
	long := strings.Repeat("p", 70000)
	for _, x := range []struct {
		tag   string
		parts []string
		want  string
		e     api.Errno
	}{
		{"x", nil, "\x01x", api.OK},
		{"x", []string{}, "\x01x", api.OK},
		{"leaf", []string{"a", ""}, "\x04leaf\x00\x00\x00\x01a\x00\x00\x00\x00", api.OK},
		{"\x00", []string{"\x00\xff"}, "\x01\x00\x00\x00\x00\x02\x00\xff", api.OK},
		{"x", []string{long}, "\x01x\x00\x01\x11\x70" + long, api.OK},
		{tag64, nil, "@" + tag64, api.OK},
		{tag65, nil, "", api.ErrTag},
		{tag65, []string{"a"}, "", api.ErrTag},
		{"", nil, "", api.ErrTag},
		{"", []string{"a"}, "", api.ErrTag},
		{strings.Repeat("t", 256+1), nil, "", api.ErrTag},
	} {
		text, e := sums.Text(x.tag, x.parts...)
		if text != x.want || e != x.e {
			t.Errorf("Text(%q, %q): %x, %v", x.tag, x.parts, text, e)
		}
		if e != api.OK {
			continue
		}
		tag, parts, e := sums.Parts(text)
		if tag != x.tag || !slices.Equal(parts, x.parts) || e != api.OK {
			t.Errorf("Parts of %x: %q, %q, %v", text, tag, parts, e)
		}
	}
}

func TestPartsRefuses(t *testing.T) {
	tag65 := strings.Repeat("t", 65)
	for _, s := range []string{
		"", "\x00", "\x02x", "\x01", "\x01x\x00", "\x01x\x00\x00\x00", "\x01x\x00\x00\x00\x01",
		"\x01x\x00\x00\x00\x01ab", "\x01x\x00\x00\x00\x02a", "\x01x\xff\xff\xff\xff", "\x01x\xff\xff\xff\xffab", "\x01x\x80\x00\x00\x00a",
		"\x01x\x00\x00\x00\x01a\x00\x00\x00\x02b", "\x41" + tag65, "\xff" + strings.Repeat("t", 255), "\x00x", "\x00\x00\x00\x00\x00",
	} {
		if tag, parts, e := sums.Parts(s); tag != "" || len(parts) != 0 || e != api.ErrText {
			t.Errorf("Parts of %x: %q, %q, %v", s, tag, parts, e)
		}
	}
}

// Every short string that Parts takes is Text of what it answers, and no other one's.
func TestTextsHaveOneForm(t *testing.T) {
	taken := 0
	var grow func(s string)
	grow = func(s string) {
		if tag, parts, e := sums.Parts(s); e == api.OK {
			taken++
			if text, e := sums.Text(tag, parts...); text != s || e != api.OK {
				t.Errorf("%x is written again as %x, %v", s, text, e)
			}
		} else if e != api.ErrText || tag != "" || len(parts) != 0 {
			t.Errorf("Parts of %x: %q, %q, %v", s, tag, parts, e)
		}
		if len(s) < 11 {
			for _, b := range []byte("\x00\x01\x02") {
				grow(s + string([]byte{b}))
			}
		}
	}
	grow("")
	if taken < 50 {
		t.Error("only", taken, "were taken")
	}
}

func TestUnlikePartsHaveUnlikeTexts(t *testing.T) {
	seen := map[string]string{}
	for _, parts := range [][]string{{"a"}, {"a", ""}, {"", "a"}, {"", ""}, {""}, {"ab"}, {"a", "b"}, {}, {"\x00\x00\x00\x01a"}, {"b", "a"}} {
		for _, tag := range []string{"a", "aa", "b", "\x01a"} {
			text, _ := sums.Text(tag, parts...)
			name := strconv.Quote(tag) + " " + strconv.Itoa(len(parts)) + strings.Join(parts, "|")
			if other, ok := seen[text]; ok {
				t.Errorf("%s and %s have one text", name, other)
			}
			seen[text] = name
		}
	}
}

func TestTextsAreTheirOwn(t *testing.T) {
	parts := []string{"a", "b", "c"}
	sums.Text("x", parts[:1]...)
	sums.Digest(3, "x", parts[:1]...)
	sums.CRC(parts[:1]...)
	sums.New().Write(parts[:1]...)
	if !slices.Equal(parts, []string{"a", "b", "c"}) {
		t.Error("what was handed in is changed:", parts)
	}
	text, _ := sums.Text("x", parts...)
	_, one, _ := sums.Parts(text)
	clear(one[:cap(one)])
	if _, two, _ := sums.Parts(text); !slices.Equal(two, parts) {
		t.Error("two answers share memory:", two)
	}
}

func TestCutAndFits(t *testing.T) {
	full := ones(32)
	for width := 1; width <= 32; width++ {
		d, e := sums.Cut(width, full)
		if d != ones(width) || e != api.OK || full != ones(32) {
			t.Errorf("Cut(%d): %x, %v", width, d, e)
		}
		for n := range 33 {
			if sums.Fits(width, ones(n)) != (n <= width) {
				t.Errorf("%d bytes of a digest of width %d", n, width)
			}
		}
		last := api.Digest{31: 1}
		if sums.Fits(width, last) != (width == 32) {
			t.Errorf("the last byte alone, at width %d", width)
		}
	}
	for _, width := range wrong {
		if d, e := sums.Cut(width, full); d != (api.Digest{}) || e != api.ErrArg {
			t.Errorf("Cut(%d): %x, %v", width, d, e)
		}
		if sums.Fits(width, full) || sums.Fits(width, api.Digest{}) {
			t.Errorf("Fits(%d)", width)
		}
	}
}

func TestOf(t *testing.T) {
	for width := 1; width <= 32; width++ {
		for _, s := range []string{"", "abc", strings.Repeat("z", 100)} {
			want, _ := sums.Cut(width, sums.Sum(s))
			if d, e := sums.Of(width, s); d != want || e != api.OK || !sums.Fits(width, d) {
				t.Errorf("Of(%d, %q): %x, %v", width, s, d, e)
			}
		}
	}
	for _, width := range wrong {
		if d, e := sums.Of(width, "abc"); d != (api.Digest{}) || e != api.ErrArg {
			t.Errorf("Of(%d): %x, %v", width, d, e)
		}
	}
}

func TestDigest(t *testing.T) {
	if d, e := sums.Digest(4, "x"); d != (api.Digest{0x23, 0xc8, 0x6a, 0x8a}) || e != api.OK {
		t.Errorf("%x, %v", d, e)
	}
	if d, e := sums.Digest(1, "leaf", "a", ""); d != (api.Digest{0x7e}) || e != api.OK {
		t.Errorf("%x, %v", d, e)
	}
	text, _ := sums.Text("leaf", "a", "")
	want, _ := sums.Of(32, text)
	if d, e := sums.Digest(32, "leaf", "a", ""); d != want || e != api.OK {
		t.Errorf("%x, %v", d, e)
	}
	tag65 := strings.Repeat("t", 65)
	for _, width := range wrong {
		for _, tag := range []string{"x", "", tag65} {
			if d, e := sums.Digest(width, tag, "a"); d != (api.Digest{}) || e != api.ErrArg {
				t.Errorf("Digest(%d, %q): %x, %v", width, tag, d, e)
			}
		}
	}
	for _, tag := range []string{"", tag65} {
		if d, e := sums.Digest(32, tag, "a"); d != (api.Digest{}) || e != api.ErrTag {
			t.Errorf("Digest(32, %q): %x, %v", tag, d, e)
		}
	}
}

func TestClash(t *testing.T) {
	for _, x := range []struct {
		width int
		x, y  string
		want  bool
	}{
		{1, "\x05", "\x0b", true},
		{1, "\x0b", "\x05", true},
		{2, "\x05", "\x0b", false},
		{32, "\x05", "\x0b", false},
		{1, "a", "a", false},
		{32, "", "", false},
		{0, "a", "b", false},
		{0, "\x05", "\x0b", false},
		{33, "\x05", "\x0b", false},
		{-1, "a", "a", false},
		{math.MinInt, "a", "b", false},
		{math.MaxInt, "a", "b", false},
	} {
		if got := sums.Clash(x.width, x.x, x.y); got != x.want {
			t.Errorf("Clash(%d, %q, %q): %v", x.width, x.x, x.y, got)
		}
	}
}

// Of 257 texts two clash at the width 1, and a clash at a width is one at every lesser width.
func TestClashesThatMustBe(t *testing.T) {
	found, wide := 0, 0
	for i := range 257 {
		for j := range i {
			x, y := strconv.Itoa(i), strconv.Itoa(j)
			if !sums.Clash(1, x, y) {
				if sums.Clash(2, x, y) {
					t.Errorf("%s and %s clash at 2, not at 1", x, y)
				}
				continue
			}
			found++
		}
	}
	byTwo := map[api.Digest]string{}
	for i := range 2000 {
		x := strconv.Itoa(i)
		d, _ := sums.Of(2, x)
		if y, ok := byTwo[d]; ok {
			wide++
			if !sums.Clash(2, x, y) || !sums.Clash(1, x, y) || sums.Clash(32, x, y) {
				t.Errorf("%s and %s", x, y)
			}
		}
		byTwo[d] = x
	}
	if found == 0 || wide == 0 {
		t.Error("no clash was found:", found, wide)
	}
}

func TestShowAndRead(t *testing.T) {
	for width := 1; width <= 32; width++ {
		d, _ := sums.Of(width, strconv.Itoa(width))
		s, e := sums.Show(width, d)
		if s != hex.EncodeToString(d[:width]) || e != api.OK {
			t.Errorf("Show(%d, %x): %q, %v", width, d, s, e)
		}
		if got, e := sums.Read(width, s); got != d || e != api.OK {
			t.Errorf("Read(%d, %q): %x, %v", width, s, got, e)
		}
	}
	for b := range 256 {
		s, _ := sums.Show(1, api.Digest{byte(b)})
		if d, e := sums.Read(1, s); d != (api.Digest{byte(b)}) || e != api.OK || s != hex.EncodeToString([]byte{byte(b)}) {
			t.Errorf("the byte %d: %q, %x, %v", b, s, d, e)
		}
	}
}

func TestShowRefuses(t *testing.T) {
	x, _ := sums.Digest(2, "x")
	if s, e := sums.Show(2, x); s != "23c8" || e != api.OK {
		t.Error(s, e)
	}
	if s, e := sums.Show(1, x); s != "" || e != api.ErrArg {
		t.Error(s, e)
	}
	for _, width := range wrong {
		if s, e := sums.Show(width, api.Digest{}); s != "" || e != api.ErrArg {
			t.Errorf("Show(%d): %q, %v", width, s, e)
		}
	}
}

func TestReadRefuses(t *testing.T) {
	for _, s := range []string{"", "2", "23", "23c", "23c8a", "23c8aa", "23C8", "23cG", "g3c8", "23c ", "23:8", "2/c8", "23`8", "0x23", "+3c8", "\x00\x00\x00\x00", "23é", strings.Repeat("0", 64)} {
		if d, e := sums.Read(2, s); d != (api.Digest{}) || e != api.ErrText {
			t.Errorf("Read(2, %q): %x, %v", s, d, e)
		}
	}
	for _, width := range wrong {
		for _, s := range []string{"", "23", strings.Repeat("0", 66), "zz"} {
			if d, e := sums.Read(width, s); d != (api.Digest{}) || e != api.ErrArg {
				t.Errorf("Read(%d, %q): %x, %v", width, s, d, e)
			}
		}
	}
	for c := range 256 {
		s := string([]byte{byte(c), '0'})
		_, e := sums.Read(1, s)
		if ok := strings.IndexByte("0123456789abcdef", byte(c)) >= 0; ok != (e == api.OK) {
			t.Errorf("Read(1, %q): %v", s, e)
		}
	}
}
