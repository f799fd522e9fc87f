package page_test

import (
	"encoding/binary"
	"fmt"
	"hash/crc32"
	"math"
	"slices"
	"strings"
	"testing"

	"heartwood/api"
	"heartwood/page"
)

// sizes are the four that a page may have.
func sizes() []int { return []int{1024, 2048, 4096, 8192} }

// frames are all that may be.
func frames() []api.Frame {
	var l []api.Frame
	for _, size := range sizes() {
		for width := 1; width <= 32; width++ {
			l = append(l, api.Frame{Page: size, Width: width})
		}
	}
	return l
}

// odd are frames that may not be.
func odd() []api.Frame {
	l := []api.Frame{{}}
	for _, size := range []int{math.MinInt, -1024, -1, 0, 1, 32, 512, 1000, 1023, 1025, 1536, 2047, 2049, 3072, 4095, 4097, 8191, 8193, 16384, 1 << 20, math.MaxInt} {
		l = append(l, api.Frame{Page: size, Width: 1}, api.Frame{Page: size, Width: 32}, api.Frame{Page: size})
	}
	for _, width := range []int{math.MinInt, -32, -1, 0, 33, 64, 256, 1 + 1<<32, math.MaxInt} {
		for _, size := range sizes() {
			l = append(l, api.Frame{Page: size, Width: width})
		}
	}
	return l
}

// mixed answers a body of so many bytes that are unlike their neighbours, none of them 0.
func mixed(n, seed int) string {
	b := make([]byte, n)
	for i := range b {
		b[i] = byte(1 + (i*7+i/255+seed*31)%255)
	}
	return string(b)
}

// bodies are bodies of all lengths that matter in a frame; some of them begin or end with bytes 0.
func bodies(f api.Frame) []string {
	room := f.Page - 32
	l := []string{"", "a", "ab", "\x00", "\x00\x00\x00", "a\x00", "\x00a", strings.Repeat("\x00", room), mixed(room-1, 5) + "\x00", "HWPG"}
	for _, n := range []int{3, 255, 256, 257, room / 2, room - 1, room} {
		l = append(l, mixed(n, 1), mixed(n, 2))
	}
	return l
}

// pages are pages that may be in a frame, of all kinds, bodies and numbers that matter.
func pages(f api.Frame) []api.Page {
	var l []api.Page
	numbers := []uint32{2, 3, 255, 256, 0x01020304, 1<<31 - 1}
	versions := []uint64{1, 2, 255, 256, 0x0102030405, 1 << 32, 1<<40 - 1, 1 << 40}
	for _, kind := range []api.PageKind{1, 2, 3} {
		for i, body := range bodies(f) {
			l = append(l, api.Page{Kind: kind, No: numbers[i%len(numbers)], Version: versions[i%len(versions)], Body: body})
		}
	}
	for _, no := range numbers {
		for _, version := range versions {
			l = append(l, api.Page{Kind: api.PageBranch, No: no, Version: version, Body: "xyz"})
		}
	}
	return l
}

// raw lays a page's form by the chapter's table, in another way than the program does; it lays pages that may not be, too, as long as the body finds room.
func raw(size int, p api.Page) []byte {
	b := make([]byte, size)
	copy(b, "\x48\x57\x50\x47\x01")
	b[5] = byte(p.Kind)
	binary.BigEndian.PutUint16(b[6:], uint16(len(p.Body)))
	binary.BigEndian.PutUint32(b[8:], p.No)
	binary.BigEndian.PutUint64(b[16:], p.Version)
	copy(b[32:], p.Body)
	return b
}

// summed answers these bytes with the sum in them made right.
func summed(b []byte) string {
	all := slices.Concat(b[:28], b[32:])
	b = slices.Clone(b)
	binary.BigEndian.PutUint32(b[28:], crc32.ChecksumIEEE(all))
	return string(b)
}

// laid answers a page's form, by raw and summed.
func laid(size int, p api.Page) string { return summed(raw(size, p)) }

// told tells a page in few words.
func told(p api.Page) string {
	return fmt.Sprintf("{%d %d %d, %d bytes %.20q}", p.Kind, p.No, p.Version, len(p.Body), p.Body)
}

// gives complains, if a page and an error are others than these; beside an error the page must be zero.
func gives(t *testing.T, what string, p api.Page, e api.Errno, want api.Page, code api.Errno) {
	t.Helper()
	if p != want || e != code {
		t.Fatalf("%s: %s, %v, and not %s, %v", what, told(p), e, told(want), code)
	}
}

// refuses complains, if an error is another one, or the page beside it is not zero.
func refuses(t *testing.T, what string, p api.Page, e api.Errno, code api.Errno) {
	t.Helper()
	gives(t, what, p, e, api.Page{}, code)
}

func TestMay(t *testing.T) {
	for _, f := range frames() {
		if !page.May(f) {
			t.Errorf("%v may not be", f)
		}
	}
	for _, f := range odd() {
		if page.May(f) {
			t.Errorf("%v may be", f)
		}
	}
	for size := -10; size < 10000; size++ {
		if want := slices.Contains(sizes(), size); page.May(api.Frame{Page: size, Width: 7}) != want {
			t.Errorf("%d bytes: %t", size, !want)
		}
	}
	for width := -40; width < 300; width++ {
		if want := width >= 1 && width <= 32; page.May(api.Frame{Page: 4096, Width: width}) != want {
			t.Errorf("width %d: %t", width, !want)
		}
	}
}

// checked complains, if Check, Write, NewShelf and Lay do not all refuse a page so.
func checked(t *testing.T, f api.Frame, p api.Page, want api.Errno) {
	t.Helper()
	if e := page.Check(f, p); e != want {
		t.Fatalf("Check(%v, %s): %v, and not %v", f, told(p), e, want)
	}
	if s, e := page.Write(f, p); e != want || (s == "") != (e != api.OK) {
		t.Fatalf("Write(%v, %s): %d bytes, %v, and not %v", f, told(p), len(s), e, want)
	}
	if x, e := page.NewShelf(f, p); e != want || (x == nil) != (e != api.OK) {
		t.Fatalf("NewShelf(%v, %s): %v, and not %v", f, told(p), e, want)
	}
	if x, _ := page.NewShelf(f); page.May(f) && x.Lay(p) != want {
		t.Fatalf("Lay(%v, %s) is not %v", f, told(p), want)
	}
}

func TestCheckTakesWhatMayBe(t *testing.T) {
	for _, f := range frames() {
		for _, p := range pages(f) {
			if e := page.Check(f, p); e != api.OK {
				t.Fatalf("Check(%v, %s): %v", f, told(p), e)
			}
		}
	}
}

func TestCheckRefuses(t *testing.T) {
	for _, f := range frames() {
		if f.Width != 1 && f.Width != 17 && f.Width != 32 {
			continue
		}
		good := api.Page{Kind: api.PageBranch, No: 2, Version: 1, Body: "ab"}
		for kind := range 256 {
			p := good
			p.Kind = api.PageKind(kind)
			checked(t, f, p, code(kind < 1 || kind > 3, api.ErrKind))
		}
		for _, no := range []uint32{0, 1, 2, 3, 1<<31 - 1, 1 << 31, 1<<31 + 1, math.MaxUint32} {
			p := good
			p.No = no
			checked(t, f, p, code(no < 2 || no >= 1<<31, api.ErrArg))
		}
		for _, version := range []uint64{0, 1, 2, 1<<40 - 1, 1 << 40, 1<<40 + 1, 1 << 41, 1 << 63, math.MaxUint64} {
			p := good
			p.Version = version
			checked(t, f, p, code(version < 1 || version > 1<<40, api.ErrArg))
		}
		for _, n := range []int{0, 1, f.Page - 34, f.Page - 33, f.Page - 32, f.Page - 31, f.Page, f.Page + 1, 65535, 65536, 65538, 1 << 20} {
			p := good
			p.Body = strings.Repeat("x", n)
			checked(t, f, p, code(n > f.Page-32, api.ErrLong))
		}
	}
}

// code answers the error, if it is to be one.
func code(wrong bool, e api.Errno) api.Errno {
	if wrong {
		return e
	}
	return api.OK
}

// All mixtures of what may be wrong with a page: the first in the chapter's order is told.
func TestCheckInOrder(t *testing.T) {
	for wrong := range 32 {
		f, p := api.Frame{Page: 2048, Width: 4}, api.Page{Kind: api.PageList, No: 9, Version: 7, Body: "z"}
		has := func(bit int) bool { return wrong&(1<<bit) != 0 }
		want := api.OK
		if has(4) {
			p.Body, want = strings.Repeat("z", 9000), api.ErrLong
		}
		if has(3) {
			p.Version, want = 0, api.ErrArg
		}
		if has(2) {
			p.No, want = 1<<31, api.ErrArg
		}
		if has(1) {
			p.Kind, want = 4, api.ErrKind
		}
		if has(0) {
			f.Width, want = 33, api.ErrArg
		}
		checked(t, f, p, want)
	}
}
