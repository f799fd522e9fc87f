package meta_test

import (
	"encoding/binary"
	"testing"

	"heartwood/api"
	"heartwood/meta"
	"heartwood/sums"
)

// example answers the frame and the record R of the chapter's table.
func example() (api.Frame, api.Meta) {
	return api.Frame{Page: 1024, Width: 4}, api.Meta{Version: 1, Root: api.Root{Page: 2, Sum: api.Digest{1, 2, 3, 4}, Count: 5, Version: 1}, Pages: 3}
}

func TestExampleOfEncode(t *testing.T) {
	f, m := example()
	s, e := meta.Encode(f, m)
	if e != api.OK || len(s) != 1024 {
		t.Fatalf("Encode: %d bytes, %v", len(s), e)
	}
	first := "\x68\x77\x6d\x31\x0a\x04\x00\x00" + "\x00\x00\x00\x00\x00\x00\x00\x01" + "\x00\x00\x00\x00\x00\x00\x00\x05" + "\x00\x00\x00\x00\x00\x00\x00\x01" + "\x00\x00\x00\x02" + "\x00\x00\x00\x00" + "\x00\x00\x00\x03"
	next := "\x01\x02\x03\x04" + noughts(28) + string(binary.BigEndian.AppendUint32(nil, sums.CRC(s[:76])))
	if s[:44] != first || s[44:80] != next || s[80:] != noughts(944) {
		t.Errorf("Encode: %x", s)
	}
}

func TestExamplesOfCheck(t *testing.T) {
	f, r := example()
	if e := meta.Check(f, r); e != api.OK {
		t.Error(e)
	}
	for what, change := range map[string]func(m *api.Meta){
		"Version 0":             func(m *api.Meta) { m.Version = 0 },
		"Root.Page 3":           func(m *api.Meta) { m.Root.Page = 3 },
		"Root.Page 1":           func(m *api.Meta) { m.Root.Page = 1 },
		"List 2":                func(m *api.Meta) { m.List = 2 },
		"Root.Count 0":          func(m *api.Meta) { m.Root.Count = 0 },
		"Root.Version 2":        func(m *api.Meta) { m.Root.Version = 2 },
		"a Sum with five bytes": func(m *api.Meta) { m.Root.Sum[4] = 1 },
	} {
		m := r
		change(&m)
		if e := meta.Check(f, m); e != api.ErrArg {
			t.Errorf("%s: %v", what, e)
		}
	}
}

func TestExamplesOfDecode(t *testing.T) {
	f, r := example()
	s, _ := meta.Encode(f, r)
	decodes(t, "noughts", f, noughts(1024), api.Meta{}, api.SlotBlank)
	decodes(t, "R", f, s, r, api.SlotRecord)
	decodes(t, "R in another frame", api.Frame{Page: 1024, Width: 5}, s, api.Meta{}, api.SlotForeign)
	decodes(t, "R with the byte 100", f, turned(s, 100, 1), api.Meta{}, api.SlotSpoilt)
	decodes(t, "R with the byte 200", f, turned(s, 200, 1), r, api.SlotRecord)
}

func TestExamplesOfPick(t *testing.T) {
	f, r := example()
	two := r
	two.Version = 2
	a, b, none, spoilt := laid(f, r), laid(f, two), noughts(1024), turned(noughts(1024), 0, 1)
	picks(t, "3 pages", f, none, a, 3, pick{r, 0, api.OK})
	picks(t, "2 pages", f, none, a, 2, pick{e: api.ErrMeta})
	picks(t, "1 page", f, none, a, 1, pick{api.Meta{Pages: 2}, 0, api.OK})
	picks(t, "noughts twice", f, none, none, 5, pick{api.Meta{Pages: 2}, 0, api.OK})
	picks(t, "noughts and a spoilt one", f, none, spoilt, 5, pick{e: api.ErrMeta})
	picks(t, "the versions 1 and 2", f, a, b, 3, pick{two, 0, api.OK})
}

// The chapter's numbers, which are not this package's to choose.
func TestNumbers(t *testing.T) {
	if api.SlotBlank != 0 || api.SlotRecord != 1 || api.SlotForeign != 2 || api.SlotSpoilt != 3 {
		t.Error("the kinds of slots")
	}
	if api.ErrForeign != 60 || api.ErrMeta != 61 || api.MetaSize != 80 {
		t.Error("the errors and the size")
	}
}
