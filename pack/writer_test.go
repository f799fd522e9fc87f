package pack_test

import (
	"encoding/binary"
	"math"
	"strings"
	"testing"

	"heartwood/api"
	"heartwood/pack"
)

// written answers what some calls lay on a new Writer, and holds Len against it.
func written(t *testing.T, lay func(w *pack.Writer)) string {
	t.Helper()
	w := pack.New()
	lay(w)
	if w.Len() != len(w.String()) {
		t.Errorf("Len is %d, String has %d bytes", w.Len(), len(w.String()))
	}
	return w.String()
}

func same(t *testing.T, what, got, want string) {
	t.Helper()
	if got != want {
		t.Errorf("%s: %x, want %x", what, got, want)
	}
}

// digest answers a digest without a byte 0.
func digest() api.Digest {
	var d api.Digest
	for i := range d {
		d[i] = byte(10 + i)
	}
	return d
}

func TestNewWriterHasNoBytes(t *testing.T) {
	same(t, "New", written(t, func(w *pack.Writer) {}), "")
	if pack.New() == pack.New() {
		t.Error("two calls of New answer one Writer")
	}
}

type small int8
type wide uint64

func laid[N pack.Whole](x N) string {
	w := pack.New()
	pack.Put(w, x)
	return w.String()
}

func TestPut(t *testing.T) {
	for _, x := range []struct{ got, want string }{
		{laid(uint16(258)) + laid(int8(-1)) + laid(uint32(1)), "\x01\x02\xff\x00\x00\x00\x01"},
		{laid(uint8(0)) + laid(uint8(255)), "\x00\xff"},
		{laid(int8(-128)) + laid(int8(127)), "\x80\x7f"},
		{laid(uint16(math.MaxUint16)), "\xff\xff"},
		{laid(int16(math.MinInt16)) + laid(int16(-2)), "\x80\x00\xff\xfe"},
		{laid(uint32(0x01020304)), "\x01\x02\x03\x04"},
		{laid(int32(math.MinInt32)) + laid(int32(math.MaxInt32)), "\x80\x00\x00\x00\x7f\xff\xff\xff"},
		{laid(uint64(0x0102030405060708)), "\x01\x02\x03\x04\x05\x06\x07\x08"},
		{laid(int64(math.MinInt64)), "\x80\x00\x00\x00\x00\x00\x00\x00"},
		{laid(int64(-1)), "\xff\xff\xff\xff\xff\xff\xff\xff"},
		{laid(small(-3)) + laid(wide(5)), "\xfd\x00\x00\x00\x00\x00\x00\x00\x05"},
		{laid(api.PageLeaf), "\x01"},
	} {
		same(t, "Put", x.got, x.want)
	}
}

// numbers answers every number that stands beside a border of seven or eight bits.
func numbers() []uint64 {
	out := []uint64{0, 1, 300, math.MaxInt64, 1 << 63, math.MaxUint64}
	for i := range 64 {
		out = append(out, 1<<i-1, 1<<i, 1<<i+1)
	}
	return out
}

func TestFreeAndSignedAreLaid(t *testing.T) {
	nine := strings.Repeat("\xff", 9)
	for n, want := range map[uint64]string{0: "\x00", 127: "\x7f", 128: "\x80\x01", 300: "\xac\x02", math.MaxUint64: nine + "\x01"} {
		same(t, "Free", written(t, func(w *pack.Writer) { w.Free(n) }), want)
	}
	for n, want := range map[int64]string{0: "\x00", -1: "\x01", 1: "\x02", -64: "\x7f", math.MinInt64: nine + "\x01", math.MaxInt64: "\xfe" + nine[1:] + "\x01"} {
		same(t, "Signed", written(t, func(w *pack.Writer) { w.Signed(n) }), want)
	}
	for _, n := range numbers() {
		same(t, "Free", written(t, func(w *pack.Writer) { w.Free(n) }), string(binary.AppendUvarint(nil, n)))
		same(t, "Signed", written(t, func(w *pack.Writer) { w.Signed(int64(n)) }), string(binary.AppendVarint(nil, int64(n))))
	}
}

func TestRawTextDigestAreLaid(t *testing.T) {
	d := digest()
	long := strings.Repeat("\x00\xfe", 150)
	for _, x := range []struct {
		what string
		lay  func(w *pack.Writer)
		want string
	}{
		{"Raw of nothing", func(w *pack.Writer) { w.Raw() }, ""},
		{"Raw", func(w *pack.Writer) { w.Raw("x", "", "yz", "\x00") }, "xyz\x00"},
		{"Text", func(w *pack.Writer) { w.Text("ab") }, "\x02ab"},
		{"Text of nothing", func(w *pack.Writer) { w.Text("") }, "\x00"},
		{"a long Text", func(w *pack.Writer) { w.Text(long) }, "\xac\x02" + long},
		{"Digest of 2", func(w *pack.Writer) { w.Digest(2, d) }, "\x0a\x0b"},
		{"Digest of 0", func(w *pack.Writer) { w.Digest(0, d) }, ""},
		{"Digest of -1", func(w *pack.Writer) { w.Digest(-1, d) }, ""},
		{"Digest of the least", func(w *pack.Writer) { w.Digest(math.MinInt, d) }, ""},
		{"Digest of 32", func(w *pack.Writer) { w.Digest(32, d) }, string(d[:])},
		{"Digest of 33", func(w *pack.Writer) { w.Digest(33, d) }, string(d[:])},
		{"Digest of the greatest", func(w *pack.Writer) { w.Digest(math.MaxInt, d) }, string(d[:])},
		{"one behind the other", func(w *pack.Writer) { w.Text("a"); w.Free(5); w.Raw("b") }, "\x01a\x05b"},
	} {
		same(t, x.what, written(t, x.lay), x.want)
	}
}

func TestEach(t *testing.T) {
	var none []string
	for _, x := range []struct {
		what string
		lay  func(w *pack.Writer)
		want string
	}{
		{"numbers", func(w *pack.Writer) { pack.Each(w, []uint16{5, 6}, pack.Put[uint16]) }, "\x02\x00\x05\x00\x06"},
		{"texts", func(w *pack.Writer) { pack.Each(w, []string{"a", ""}, (*pack.Writer).Text) }, "\x02\x01a\x00"},
		{"a nil list", func(w *pack.Writer) { pack.Each(w, none, (*pack.Writer).Text) }, "\x00"},
		{"an empty list", func(w *pack.Writer) { pack.Each(w, []string{}, (*pack.Writer).Text) }, "\x00"},
		{"a one that is nil", func(w *pack.Writer) { pack.Each(w, []string{"a", "b"}, nil) }, "\x02"},
		{"a one that lays nothing", func(w *pack.Writer) { pack.Each(w, []string{"a"}, func(*pack.Writer, string) {}) }, "\x01"},
		{"300 things", func(w *pack.Writer) { pack.Each(w, make([]uint8, 300), pack.Put[uint8]) }, "\xac\x02" + strings.Repeat("\x00", 300)},
	} {
		same(t, x.what, written(t, x.lay), x.want)
	}
}

func TestEachHandsItsWriterOn(t *testing.T) {
	w := pack.New()
	var seen []int
	pack.Each(w, []int{7, 8, 9}, func(v *pack.Writer, x int) {
		if v != w {
			t.Error("another Writer is handed on")
		}
		seen = append(seen, x)
	})
	if len(seen) != 3 || seen[0] != 7 || seen[1] != 8 || seen[2] != 9 {
		t.Error(seen)
	}
}

func TestWritersThatAreNotThere(t *testing.T) {
	for _, w := range []*pack.Writer{nil, {}, new(pack.Writer)} {
		pack.Put(w, uint32(1))
		pack.Each(w, []string{"a"}, func(*pack.Writer, string) { t.Error("Each calls one") })
		pack.Each(w, []string{"a"}, nil)
		w.Free(1)
		w.Signed(-1)
		w.Raw("a")
		w.Text("a")
		w.Digest(32, digest())
		if w.Len() != 0 || w.String() != "" {
			t.Errorf("%d, %x", w.Len(), w.String())
		}
	}
}

func TestWriterKeepsNothingOfOthers(t *testing.T) {
	parts := []string{"a", "b", "c"}
	d := digest()
	w := pack.New()
	w.Raw(parts[:1]...)
	pack.Each(w, parts[:2], (*pack.Writer).Text)
	w.Digest(1, d)
	want := "a\x02\x01a\x01b\x0a"
	early := w.String()
	parts[0], d[0] = "x", 99
	w.Free(7)
	same(t, "String", w.String(), want+"\x07")
	same(t, "an earlier String", early, want)
	if parts[1] != "b" || parts[2] != "c" {
		t.Error("what was handed in is changed:", parts)
	}
}
