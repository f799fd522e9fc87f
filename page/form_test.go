package page_test

import (
	"encoding/binary"
	"math"
	"math/rand"
	"strings"
	"testing"

	"heartwood/api"
	"heartwood/page"
)

// few are frames of all sizes; the width says nothing in a page's form, so these are enough where there is much to do.
func few() []api.Frame {
	return []api.Frame{{Page: 1024, Width: 32}, {Page: 2048, Width: 1}, {Page: 4096, Width: 16}, {Page: 8192, Width: 31}}
}

// taken complains, if s is not read, and opened, as p.
func taken(t *testing.T, what string, f api.Frame, s string, p api.Page) {
	t.Helper()
	q, e := page.Read(f, s)
	gives(t, "Read of "+what, q, e, p, api.OK)
	q, e = page.Open(f, p.No, s)
	gives(t, "Open of "+what, q, e, p, api.OK)
}

// refused complains, if s is not refused so, by Read and by Open.
func refused(t *testing.T, what string, f api.Frame, s string, code api.Errno) {
	t.Helper()
	p, e := page.Read(f, s)
	refuses(t, "Read of "+what, p, e, code)
	p, e = page.Open(f, 7, s) // the number is asked last, so any does
	refuses(t, "Open of "+what, p, e, code)
}

// 5.2, 5.3 and the first half of 5.6: each page that may be has the form of the table, and is read from it.
func TestFormThereAndBack(t *testing.T) {
	t.Parallel()
	for _, f := range frames() {
		for _, p := range pages(f) {
			s, e := page.Write(f, p)
			if want := laid(f.Page, p); e != api.OK || s != want {
				t.Fatalf("Write(%v, %s): %x.. (%d bytes), %v, and not %x..", f, told(p), s[:min(40, len(s))], len(s), e, want[:40])
			}
			taken(t, told(p), f, s, p)
		}
	}
}

// The width says nothing in the form; the size does.
func TestFormsOfOtherFrames(t *testing.T) {
	p := api.Page{Kind: api.PageList, No: 77, Version: 3, Body: "abc"}
	for _, size := range sizes() {
		s := laid(size, p)
		for _, f := range frames() {
			if f.Page == size {
				taken(t, "another width", f, s, p)
			} else {
				refused(t, "another size", f, s, api.ErrShort)
			}
		}
	}
}

func TestOpenAsksTheNumber(t *testing.T) {
	for _, f := range few() {
		for _, no := range []uint32{2, 3, 258, 1<<31 - 1} {
			s := laid(f.Page, api.Page{Kind: api.PageLeaf, No: no, Version: 9, Body: "q"})
			for _, other := range []uint32{0, 1, 2, 3, 4, 258, 1 << 8, 1<<31 - 2, 1<<31 - 1, 1 << 31, 1<<31 + 2, math.MaxUint32, no + 1<<16, no ^ 1<<31} {
				if other == no {
					continue
				}
				q, e := page.Open(f, other, s)
				refuses(t, "Open at another number", q, e, api.ErrNumber)
			}
		}
	}
}

// Read's errors in their order: the frame, the length, the sum, the rest.
func TestReadInOrder(t *testing.T) {
	for _, f := range odd() {
		for _, s := range []string{"", "a", laid(1024, api.Page{Kind: 1, No: 2, Version: 1}), strings.Repeat("\x00", 1024), strings.Repeat("\x00", 8192)} {
			refused(t, "an odd frame", f, s, api.ErrArg)
		}
	}
	for _, f := range few() {
		good := laid(f.Page, api.Page{Kind: api.PageLeaf, No: 2, Version: 1, Body: mixed(f.Page-32, 3)})
		for _, n := range []int{0, 1, 4, 27, 28, 29, 31, 32, 33, f.Page / 2, f.Page - 1} {
			refused(t, "too few bytes", f, good[:n], api.ErrShort)
			refused(t, "too few bytes, from behind", f, good[f.Page-n:], api.ErrShort)
			refused(t, "too few bytes 0", f, strings.Repeat("\x00", n), api.ErrShort)
		}
		for _, n := range []int{1, 2, 32, f.Page} {
			refused(t, "too many bytes", f, good+strings.Repeat("\x00", n), api.ErrShort)
			refused(t, "too many bytes", f, good+good[:n], api.ErrShort)
		}
		for _, c := range []string{"\x00", "\x01", "\xff", "H"} {
			refused(t, "one byte over and over", f, strings.Repeat(c, f.Page), api.ErrCrc)
		}
		turned := []byte(good)
		turned[0], turned[5], turned[8] = 'X', 9, 255
		refused(t, "no page's form with another sum", f, string(turned), api.ErrCrc)
		refused(t, "no page's form with its sum", f, summed(turned), api.ErrNoPage)
	}
}

// changed answers the form of a page with one byte made another one, and the sum right again.
func changed(size int, p api.Page, at int, to byte) string {
	b := raw(size, p)
	b[at] = to
	return summed(b)
}

// Forms whose sum is right, and that are no page's: each byte of the head by each other one.
func TestNoPageByAByteOfTheHead(t *testing.T) {
	t.Parallel()
	for _, f := range few() {
		p := api.Page{Kind: api.PageBranch, No: 0x00010203, Version: 0x0203040506, Body: "body"}
		kept := raw(f.Page, p)
		for at := range 28 {
			for to := range 256 {
				if kept[at] == byte(to) {
					continue
				}
				s := changed(f.Page, p, at, byte(to))
				if want, may := parsed(s); may {
					taken(t, "another page", f, s, want)
				} else {
					refused(t, "no page's form", f, s, api.ErrNoPage)
				}
			}
		}
	}
}

// parsed is another reader, of bytes whose length and sum are right: it holds them against the form of the page of which they speak.
func parsed(s string) (api.Page, bool) {
	n := int(binary.BigEndian.Uint16([]byte(s[6:8])))
	if n > len(s)-32 {
		return api.Page{}, false
	}
	p := api.Page{Kind: api.PageKind(s[5]), No: binary.BigEndian.Uint32([]byte(s[8:12])), Version: binary.BigEndian.Uint64([]byte(s[16:24])), Body: s[32 : 32+n]}
	may := p.Kind >= 1 && p.Kind <= 3 && p.No >= 2 && p.No <= 1<<31-1 && p.Version >= 1 && p.Version <= 1<<40
	return p, may && laid(len(s), p) == s
}

// Which bytes of the head may be others is told outright, so that the other reader does not stand alone.
func TestNoPageByName(t *testing.T) {
	t.Parallel()
	for _, f := range few() {
		p := api.Page{Kind: api.PageBranch, No: 5, Version: 6, Body: "ab"}
		taken(t, "what is changed below", f, laid(f.Page, p), p)
		for at, kept := range []byte("HWPG\x01") {
			for to := range 256 {
				if byte(to) != kept {
					refused(t, "another mark or form", f, changed(f.Page, p, at, byte(to)), api.ErrNoPage)
				}
			}
		}
		for to := 4; to <= 256; to++ {
			refused(t, "another kind", f, changed(f.Page, p, 5, byte(to)), api.ErrNoPage)
		}
		for _, at := range []int{12, 13, 14, 15, 24, 25, 26, 27} {
			for to := 1; to < 256; to++ {
				refused(t, "no byte 0 in the head", f, changed(f.Page, p, at, byte(to)), api.ErrNoPage)
			}
		}
		for at := 34; at < f.Page; at++ {
			refused(t, "no byte 0 behind the body", f, changed(f.Page, p, at, byte(at%255+1)), api.ErrNoPage)
		}
	}
}

// Pages that may not be have no form, though the table says how it would look.
func TestNoPageThatMayBe(t *testing.T) {
	for _, f := range few() {
		room := f.Page - 32
		for _, body := range []string{"", "ab", mixed(room, 4)} {
			for _, no := range []uint32{0, 1, 1 << 31, 1<<31 + 2, math.MaxUint32} {
				refused(t, "another number", f, laid(f.Page, api.Page{Kind: 1, No: no, Version: 1, Body: body}), api.ErrNoPage)
			}
			for _, version := range []uint64{0, 1<<40 + 1, 1 << 41, 1 << 63, math.MaxUint64} {
				refused(t, "another version", f, laid(f.Page, api.Page{Kind: 1, No: 2, Version: version, Body: body}), api.ErrNoPage)
			}
			for _, kind := range []api.PageKind{0, 4, 128, 255} {
				refused(t, "another kind", f, laid(f.Page, api.Page{Kind: kind, No: 2, Version: 1, Body: body}), api.ErrNoPage)
			}
		}
	}
}

// A length is read as it stands: one that is within the room and has no other byte behind it than 0 is another page's.
func TestLengths(t *testing.T) {
	t.Parallel()
	for _, f := range few() {
		room := f.Page - 32
		p := api.Page{Kind: api.PageLeaf, No: 2, Version: 1, Body: "abc\x00d"}
		for n := range 1 << 16 {
			if n > room+40 && n%251 != 0 && n < 1<<16-40 {
				continue
			}
			b := raw(f.Page, p)
			binary.BigEndian.PutUint16(b[6:], uint16(n))
			s := summed(b)
			if n < 5 || n > room {
				refused(t, "a length that may not be", f, s, api.ErrNoPage)
				continue
			}
			q := p
			q.Body = s[32 : 32+n]
			taken(t, "another length", f, s, q)
		}
	}
}

// The second half of 5.6, and that Read takes nothing else: bytes with a right sum, many of them nearly a page's.
func TestReadTakesFormsAlone(t *testing.T) {
	t.Parallel()
	pick := rand.New(rand.NewSource(5))
	takes := 0
	for range 10000 {
		f := few()[pick.Intn(4)]
		b := raw(f.Page, api.Page{Kind: api.PageKind(pick.Intn(5)), No: uint32(pick.Intn(6)), Version: uint64(pick.Intn(4)), Body: mixed(pick.Intn(f.Page-31), pick.Intn(9))})
		for range pick.Intn(3) {
			b[pick.Intn(40)] = byte(pick.Intn(256) * pick.Intn(2))
		}
		s := summed(b)
		want, may := parsed(s)
		if !may {
			refused(t, "what is nearly a page's", f, s, api.ErrNoPage)
			continue
		}
		takes++
		taken(t, "a page's", f, s, want)
		if again, e := page.Write(f, want); again != s || e != api.OK {
			t.Fatalf("Write of what Read answered: %v", e)
		}
	}
	if takes < 1000 || takes > 9000 {
		t.Error("too few, or too many, were read:", takes)
	}
}

// damaged complains, if Read does not see that a form was turned.
func damaged(t *testing.T, f api.Frame, b []byte, what string, at int) {
	t.Helper()
	if p, e := page.Read(f, string(b)); e != api.ErrCrc || p != (api.Page{}) {
		t.Fatalf("%s at %d of %d: %v", what, at, f.Page, e)
	}
}

// 5.7, one byte: in the smallest frame by each other byte, in the others by one or two.
func TestOneByteTurned(t *testing.T) {
	t.Parallel()
	for i, f := range few() {
		step := []int{1, 101, 128, 255}[i]
		b := raw(f.Page, api.Page{Kind: api.PageLeaf, No: 2, Version: 1, Body: mixed(300, 1)})
		b = []byte(summed(b))
		for at := range b {
			for by := 1 + at%step; by < 256; by += step {
				b[at] ^= byte(by)
				damaged(t, f, b, "a byte turned", at)
				b[at] ^= byte(by)
			}
		}
	}
}

// 5.7, several within four bytes next to one another, all of them within one stretch.
func TestSeveralBytesTurned(t *testing.T) {
	t.Parallel()
	pick := rand.New(rand.NewSource(7))
	for _, f := range few() {
		for _, stretch := range [][2]int{{0, 28}, {28, 32}, {32, f.Page}} {
			for _, p := range []api.Page{{Kind: api.PageLeaf, No: 2, Version: 1}, {Kind: api.PageList, No: 1<<31 - 1, Version: 1 << 40, Body: mixed(f.Page-32, 8)}} {
				b := []byte(laid(f.Page, p))
				for from := stretch[0]; from+4 <= stretch[1]; from++ {
					for range 8 * 1024 / f.Page {
						by := pick.Uint32() & [3]uint32{math.MaxUint32, 0xff0000ff, 0x80000001}[pick.Intn(3)]
						if by == 0 {
							continue
						}
						turn(b[from:], by)
						damaged(t, f, b, "several bytes turned", from)
						turn(b[from:], by)
					}
				}
			}
		}
	}
}

func turn(b []byte, by uint32) { binary.BigEndian.PutUint32(b, binary.BigEndian.Uint32(b)^by) }
