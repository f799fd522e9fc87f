package meta_test

import (
	"encoding/binary"
	"math/rand"
	"strings"
	"testing"

	"heartwood/api"
	"heartwood/meta"
)

// decodes complains, if Decode answers something else, or an error.
func decodes(t *testing.T, what string, f api.Frame, page string, want api.Meta, kind api.SlotKind) {
	t.Helper()
	m, k, e := meta.Decode(f, page)
	if m != want || k != kind || e != api.OK {
		t.Fatalf("Decode of %s in %v: %+v, %d, %v, and not %+v, %d", what, f, m, k, e, want, kind)
	}
}

// is complains, if a slot is not of that kind, which is none with a record.
func is(t *testing.T, what string, f api.Frame, page string, kind api.SlotKind) {
	t.Helper()
	decodes(t, what, f, page, api.Meta{}, kind)
}

// told is another Decode: it holds the first sector against the bytes of the records of all frames.
func told(f api.Frame, page string) (api.Meta, api.SlotKind) {
	sector := []byte(page[:f.Page/8])
	if strings.Trim(string(sector), "\x00") == "" {
		return api.Meta{}, api.SlotBlank
	}
	m := api.Meta{
		Version: binary.BigEndian.Uint64(sector[8:]),
		Root:    api.Root{Page: binary.BigEndian.Uint32(sector[32:]), Count: binary.BigEndian.Uint64(sector[16:]), Version: binary.BigEndian.Uint64(sector[24:])},
		List:    binary.BigEndian.Uint32(sector[36:]),
		Pages:   binary.BigEndian.Uint32(sector[40:]),
	}
	copy(m.Root.Sum[:], sector[44:76])
	for _, of := range frames() {
		if sector[4] != logs()[of.Page] || int(sector[5]) != of.Width || !may(of, m) || laid(of, m)[:80]+noughts(len(sector)-80) != string(sector) {
			continue
		}
		if of == f {
			return m, api.SlotRecord
		}
		return api.Meta{}, api.SlotForeign
	}
	return api.Meta{}, api.SlotSpoilt
}

// resized answers the beginning of a page of one frame as a page of another, with noughts behind it, if this is longer.
func resized(s string, size int) string { return (s + noughts(size))[:size] }

// 6.3: the frame, and how many bytes there are.
func TestDecodeRefuses(t *testing.T) {
	refuses := func(what string, f api.Frame, page string) {
		t.Helper()
		if m, k, e := meta.Decode(f, page); m != (api.Meta{}) || k != 0 || e != api.ErrArg {
			t.Fatalf("Decode of %s in %v: %+v, %d, %v", what, f, m, k, e)
		}
	}
	for _, f := range odd() {
		for _, s := range []string{"", "a", noughts(1024), noughts(8192), laid(few()[0], record(few()[0])), laid(few()[3], record(few()[3]))} {
			refuses("an odd frame", f, s)
		}
		if f.Page > 0 && f.Page < 1<<15 {
			refuses("an odd frame's noughts", f, noughts(f.Page))
			refuses("an odd frame's record", f, resized(laid(few()[3], record(few()[3])), f.Page))
		}
	}
	for _, f := range frames() {
		s := laid(f, record(f))
		for _, n := range []int{0, 1, 79, 80, 81, f.Page / 8, f.Page / 2, f.Page - 1} {
			refuses("too few bytes", f, s[:n])
			refuses("too few noughts", f, noughts(n))
		}
		for _, n := range []int{1, 80, f.Page, 7 * f.Page} {
			refuses("too many bytes", f, s+noughts(n))
			refuses("too many noughts", f, noughts(f.Page+n))
		}
	}
}

// 6.3: the four kinds in all frames; what stands behind the first sector is not looked at.
func TestKindsOfSlots(t *testing.T) {
	for _, f := range frames() {
		sector := f.Page / 8
		other := few()[f.Width%4]
		if other == f {
			other.Width = f.Width%32 + 1
		}
		for _, rest := range []string{noughts(f.Page - sector), strings.Repeat("\xff", f.Page-sector), resized(laid(other, record(other)), f.Page-sector), "\x01" + noughts(f.Page-sector-1), noughts(f.Page-sector-1) + "\x01"} {
			is(t, "a blank slot", f, noughts(sector)+rest, api.SlotBlank)
			decodes(t, "a record", f, laid(f, record(f))[:sector]+rest, record(f), api.SlotRecord)
			is(t, "a foreign record", f, resized(laid(other, record(other)), sector)+rest, api.SlotForeign)
			is(t, "a spoilt record", f, laid(f, record(f))[:sector-1]+"\x01"+rest, api.SlotSpoilt)
			is(t, "a nought too few", f, noughts(sector-1)+"\x01"+rest, api.SlotSpoilt)
			is(t, "no nought at first", f, "\x80"+noughts(sector-1)+rest, api.SlotSpoilt)
		}
	}
}

// Records that stand in a later sector, or not quite at the beginning, are none.
func TestRecordsInAnotherPlace(t *testing.T) {
	for _, f := range few() {
		s := laid(f, record(f))
		for _, by := range []int{1, 2, 4, 8, 40} {
			is(t, "a record further behind", f, (noughts(by) + s)[:f.Page], api.SlotSpoilt)
			is(t, "a record further ahead", f, s[by:]+noughts(by), api.SlotSpoilt)
		}
		for i := 1; i < 8; i++ {
			by := f.Page / 8 * i
			is(t, "a record in a later sector", f, (noughts(by) + s)[:f.Page], api.SlotBlank)
		}
	}
}

// Each frame's records in each other frame: foreign, be it by Page, by Width or by both.
func TestForeignRecords(t *testing.T) {
	t.Parallel()
	for _, of := range frames() {
		for i, m := range records(of) {
			s := laid(of, m)
			for _, f := range frames() {
				if i > 0 && f.Page != of.Page && f.Width != of.Width {
					continue
				}
				if page := resized(s, f.Page); f == of {
					decodes(t, "a record", f, page, m, api.SlotRecord)
				} else {
					is(t, "a foreign record", f, page, api.SlotForeign)
				}
			}
		}
	}
}

// A foreign record needs noughts up to the end of a sector of the frame that is asked, not of its own.
func TestForeignSectors(t *testing.T) {
	for _, of := range few() {
		for _, f := range few() {
			if f == of {
				continue
			}
			page := resized(laid(of, record(of)), f.Page)
			for at := 80; at < f.Page; at++ {
				kind := api.SlotForeign
				if at < f.Page/8 {
					kind = api.SlotSpoilt
				}
				is(t, "a foreign record", f, turned(page, at, byte(1+at%255)), kind)
			}
			for what, m := range wrong(of) {
				is(t, "a foreign record with "+what, f, resized(laid(of, m), f.Page), api.SlotSpoilt)
			}
		}
	}
}

// Pages whose sum is right, and that are no record's.
func TestSpoiltWithARightSum(t *testing.T) {
	t.Parallel()
	for _, f := range frames() {
		for what, m := range wrong(f) {
			is(t, what, f, laid(f, m), api.SlotSpoilt)
		}
	}
	for _, f := range few() {
		change := func(at int, to byte) string {
			b := raw(f, record(f))
			b[at] = to
			return summed(b)
		}
		for at, kept := range []byte("hwm1") {
			for to := range 256 {
				if byte(to) != kept {
					is(t, "another mark", f, change(at, byte(to)), api.SlotSpoilt)
				}
			}
		}
		for to := 1; to < 256; to++ {
			is(t, "no nought at 6", f, change(6, byte(to)), api.SlotSpoilt)
			is(t, "no nought at 7", f, change(7, byte(to)), api.SlotSpoilt)
		}
		for at := 80; at < f.Page/8; at++ {
			is(t, "no nought behind the record", f, change(at, byte(1+at%255)), api.SlotSpoilt)
		}
	}
}

// All frames of which a record could speak, those that may not be among them, with a right sum.
func TestFramesInRecords(t *testing.T) {
	t.Parallel()
	for _, f := range few() {
		m := api.Meta{Version: 3, Pages: 4}
		b := raw(f, m)
		for log := range 256 {
			for width := range 256 {
				if log > 20 && width > 40 && (log*7+width)%101 > 0 {
					continue
				}
				b[4], b[5] = byte(log), byte(width)
				switch {
				case log == int(logs()[f.Page]) && width == f.Width:
					decodes(t, "a record", f, summed(b), m, api.SlotRecord)
				case log >= 10 && log <= 13 && width >= 1 && width <= 32:
					is(t, "another frame", f, summed(b), api.SlotForeign)
				default:
					is(t, "a frame that may not be", f, summed(b), api.SlotSpoilt)
				}
			}
		}
	}
}

// A record whose digest fits the width that is asked, but not its own, is nobody's.
func TestSumsOfAnotherWidth(t *testing.T) {
	for _, f := range frames() {
		if f.Width == 32 {
			continue
		}
		m := record(f)
		m.Root.Sum[f.Width] = 1
		for _, width := range []int{f.Width, f.Width + 1, 32} {
			is(t, "a digest too long", api.Frame{Page: f.Page, Width: width}, laid(f, m), api.SlotSpoilt)
		}
	}
}

// The sum is that of the 76 bytes ahead, and stands with the highest byte first.
func TestOtherSums(t *testing.T) {
	for _, f := range few() {
		s := laid(f, record(f))
		b := []byte(s)
		sum := binary.BigEndian.Uint32(b[76:])
		for _, x := range []uint32{0, ^sum, sum + 1, sum ^ 1<<31, sum<<8 | sum>>24} {
			binary.BigEndian.PutUint32(b[76:], x)
			is(t, "another sum", f, string(b), api.SlotSpoilt)
		}
		binary.LittleEndian.PutUint32(b[76:], sum)
		is(t, "the sum the other way round", f, string(b), api.SlotSpoilt)
	}
}

// What Decode tells of pages that are nearly a record's, held against the other one.
func TestDecodeAgainstAnother(t *testing.T) {
	t.Parallel()
	pick := rand.New(rand.NewSource(6))
	all := frames()
	var seen [4]int
	for range 12000 {
		f, of := all[pick.Intn(len(all))], all[pick.Intn(len(all))]
		if pick.Intn(2) == 0 {
			of = f
		}
		b := raw(of, someRecord(pick, of))
		for range pick.Intn(3) {
			b[pick.Intn(90)] = byte(pick.Intn(256) * pick.Intn(2))
		}
		if pick.Intn(9) == 0 {
			clear(b[:80])
		}
		page := string(b)
		if pick.Intn(6) > 0 && strings.Trim(page, "\x00") != "" {
			page = summed(b)
		}
		page = resized(page, f.Page)
		m, kind := told(f, page)
		seen[kind]++
		decodes(t, "what is nearly a record's", f, page, m, kind)
	}
	for kind, n := range seen {
		if n < 300 {
			t.Errorf("only %d slots of the kind %d", n, kind)
		}
	}
}

// someRecord answers a record that mostly may be.
func someRecord(pick *rand.Rand, f api.Frame) api.Meta {
	m := api.Meta{Version: uint64(1 + pick.Intn(5)), Pages: uint32(2 + pick.Intn(6))}
	m.Root.Sum = digest(min(32, f.Width+pick.Intn(12)/11), pick.Intn(9))
	if pick.Intn(3) > 0 {
		m.Root.Page, m.Root.Count, m.Root.Version = uint32(2+pick.Intn(6)), uint64(1+pick.Intn(9)), uint64(1+pick.Intn(3))
	}
	if pick.Intn(2) > 0 {
		m.List = uint32(2 + pick.Intn(6))
	}
	return m
}
