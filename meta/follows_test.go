package meta_test

import (
	"math/rand"
	"testing"

	"heartwood/api"
	"heartwood/meta"
)

// 6.5, the first half.
func TestThereAndBack(t *testing.T) {
	t.Parallel()
	for _, f := range frames() {
		for _, m := range records(f) {
			s, e := meta.Encode(f, m)
			if e != api.OK {
				t.Fatalf("Encode of %v %+v: %v", f, m, e)
			}
			decodes(t, "what Encode answered", f, s, m, api.SlotRecord)
		}
	}
}

// 6.5, the second half: of pages whose bytes are picked, those that are told as records.
func TestBackAndThere(t *testing.T) {
	t.Parallel()
	by := rand.New(rand.NewSource(65))
	some := 0
	for range 20000 {
		f := few()[by.Intn(4)]
		b := raw(f, someRecord(by, f))
		for range by.Intn(3) {
			b[by.Intn(len(b))] = byte(by.Intn(4))
		}
		s := summed(b)
		m, kind, e := meta.Decode(f, s)
		if e != api.OK || kind != api.SlotRecord {
			continue
		}
		some++
		again, e := meta.Encode(f, m)
		if e != api.OK || again[:f.Page/8] != s[:f.Page/8] || again[f.Page/8:] != noughts(f.Page-f.Page/8) {
			t.Fatalf("Encode of what Decode answered: %v, %x", e, again[:80])
		}
	}
	if some < 2000 {
		t.Error("too few records:", some)
	}
}

// 6.6: every byte of a page turned; of the record by each other byte, of the rest by some.
func TestOneByteTurned(t *testing.T) {
	t.Parallel()
	for _, f := range few() {
		for _, m := range []api.Meta{record(f), {Version: 1, Pages: 2}, records(f)[9]} {
			s, e := meta.Encode(f, m)
			if e != api.OK {
				t.Fatal(e)
			}
			for at := range f.Page {
				step := 1
				if at >= 80 || f.Page > 1024 {
					step = 16 * f.Page / 1024
				}
				for x := 1 + at%step; x < 256; x += step {
					page := turned(s, at, s[at]^byte(x))
					if at < f.Page/8 {
						is(t, "a byte turned", f, page, api.SlotSpoilt)
					} else {
						decodes(t, "a byte turned", f, page, m, api.SlotRecord)
					}
				}
			}
		}
	}
}

// 6.6 in all frames, each byte of the record by one other.
func TestOneByteTurnedInAllFrames(t *testing.T) {
	t.Parallel()
	for _, f := range frames() {
		for _, m := range records(f)[:4] {
			s, _ := meta.Encode(f, m)
			for at := range 82 {
				is(t, "a byte turned", f, turned(s, at, s[at]+byte(1+at%255)), api.SlotSpoilt)
			}
			is(t, "the sector's last byte turned", f, turned(s, f.Page/8-1, 1), api.SlotSpoilt)
			decodes(t, "the next sector's first byte turned", f, turned(s, f.Page/8, 1), m, api.SlotRecord)
			decodes(t, "the last byte turned", f, turned(s, f.Page-1, 1), m, api.SlotRecord)
		}
	}
}

// woven answers a page of the sectors of two: those whose bits are set are the newer one's.
func woven(older, newer string, bits int) string {
	n := len(older) / 8
	page := []byte(older)
	for i := range 8 {
		if bits>>i&1 == 1 {
			copy(page[i*n:(i+1)*n], newer[i*n:])
		}
	}
	return string(page)
}

// masks are mixtures of sectors: all of the smallest pages, some of the greater ones.
func masks(f api.Frame) []int {
	l := []int{1, 254, 255}
	for bits := 0; bits < 256; bits += 4*(f.Page/1024) - 3 {
		l = append(l, bits)
	}
	return l
}

// kinds are pages of all four kinds, with something in the sectors behind.
func kinds(f api.Frame) []string {
	other := f
	other.Width = f.Width%32 + 1
	sector := f.Page / 8
	return []string{
		noughts(f.Page),
		noughts(sector) + laid(f, record(f))[:f.Page-sector],
		laid(f, record(f)),
		laid(f, records(f)[8])[:f.Page-1] + "z",
		laid(other, record(other)),
		turned(laid(f, record(f)), sector-1, 1),
	}
}

// 6.7: all mixtures of the sectors of two pages of all kinds.
func TestSectorsOfTwo(t *testing.T) {
	t.Parallel()
	for _, f := range few() {
		for _, a := range kinds(f) {
			for _, b := range kinds(f) {
				for _, bits := range masks(f) {
					whole := a
					if bits&1 == 1 {
						whole = b
					}
					m, kind, _ := meta.Decode(f, whole)
					decodes(t, "sectors of two", f, woven(a, b, bits), m, kind)
				}
			}
		}
	}
}

// goesOn complains, if 6.8 does not hold of two slots, and of a record that is laid into the slot next.
func goesOn(t *testing.T, f api.Frame, zero, one string, pages int, m api.Meta) {
	t.Helper()
	old := picked(f, zero, one, pages)
	laidOut, e := meta.Encode(f, m)
	if !old.ok() || e != api.OK || m.Version <= old.m.Version || int(m.Pages) > pages {
		t.Fatalf("nothing is promised here: %+v, %v", old, e)
	}
	for _, bits := range masks(f) {
		now := [2]string{zero, one}
		now[old.next] = woven(now[old.next], laidOut, bits)
		want := old
		if bits&1 == 1 {
			want = pick{m, 1 - old.next, api.OK}
		}
		picks(t, "a slot that is laid over", f, now[0], now[1], pages, want)
	}
}

// 6.8: over slots of all kinds, a greater record of which any sectors have come.
func TestItOnlyGoesOn(t *testing.T) {
	t.Parallel()
	for _, f := range few() {
		all := slots(f)
		for _, zero := range all {
			for _, one := range all {
				for _, pages := range []int{2, 5} {
					old := picked(f, zero.page, one.page, pages)
					if !old.ok() || old.m.Version == 1<<40 {
						continue
					}
					m := api.Meta{Version: old.m.Version + 1, Root: api.Root{Sum: digest(f.Width, 8)}, Pages: uint32(pages)}
					goesOn(t, f, zero.page, one.page, pages, m)
				}
			}
		}
	}
}

// 6.8 over and over: versions are laid into the slot next by turns, some of them cut off, and none is lost that had come.
func TestItGoesOnByTurns(t *testing.T) {
	by := rand.New(rand.NewSource(68))
	came := 0
	for _, f := range frames() {
		now := [2]string{noughts(f.Page), noughts(f.Page)}
		want := nothing()
		for range 40 {
			picks(t, "the turns", f, now[0], now[1], 70000, want)
			m := someRecord(by, f)
			m.Version += want.m.Version
			s, e := meta.Encode(f, m)
			if e != api.OK {
				continue
			}
			bits := by.Intn(256)
			now[want.next] = woven(now[want.next], s, bits)
			if bits&1 == 1 {
				want = pick{m, 1 - want.next, api.OK}
				came++
			}
		}
	}
	if came < 500 {
		t.Error("too few versions were laid:", came)
	}
}
