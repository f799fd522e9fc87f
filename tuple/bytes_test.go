package tuple_test

import (
	"math"
	"math/rand"
	"strings"
	"testing"

	"heartwood/api"
	"heartwood/tuple"
)

func TestPackExamples(t *testing.T) {
	seven := func(b string) string { return strings.Repeat(b, 7) }
	six := func(b string) string { return strings.Repeat(b, 6) }
	for _, x := range []struct {
		row  []api.Item
		want string
	}{
		{nil, ""},
		{[]api.Item{null(), truth(true)}, "\x01\x03"},
		{[]api.Item{truth(false), truth(false)}, "\x02\x02"},
		{[]api.Item{number(0)}, "\x14"},
		{[]api.Item{number(1)}, "\x15\x01"},
		{[]api.Item{number(255)}, "\x15\xff"},
		{[]api.Item{number(256)}, "\x16\x01\x00"},
		{[]api.Item{number(1<<48 - 1)}, "\x1a" + six("\xff")},
		{[]api.Item{number(1 << 48)}, "\x1b\x01" + six("\x00")},
		{[]api.Item{number(-1)}, "\x13\xfe"},
		{[]api.Item{number(-255)}, "\x13\x00"},
		{[]api.Item{number(-256)}, "\x12\xfe\xff"},
		{[]api.Item{number(-65535)}, "\x12\x00\x00"},
		{[]api.Item{number(-65536)}, "\x11\xfe\xff\xff"},
		{[]api.Item{number(math.MinInt64)}, "\x0c\x7f" + seven("\xff")},
		{[]api.Item{number(math.MaxInt64)}, "\x1c\x7f" + seven("\xff")},
		{[]api.Item{float(1)}, "\x20\xbf\xf0" + six("\x00")},
		{[]api.Item{float(-1)}, "\x20\x40\x0f" + six("\xff")},
		{[]api.Item{float(0)}, "\x20\x80" + seven("\x00")},
		{[]api.Item{minusNought()}, "\x20\x7f" + seven("\xff")},
		{[]api.Item{float(math.Inf(1))}, "\x20\xff\xf0" + six("\x00")},
		{[]api.Item{float(math.Inf(-1))}, "\x20\x00\x0f" + six("\xff")},
		{[]api.Item{bits(0x0123456789abcdef)}, "\x20\x81\x23\x45\x67\x89\xab\xcd\xef"},
		{[]api.Item{text("a")}, "\x24a\x00\x01"},
		{[]api.Item{text("")}, "\x24\x00\x01"},
		{[]api.Item{text("\x00")}, "\x24\x00\xff\x00\x01"},
		{[]api.Item{text("\x00\x01\xff\x00")}, "\x24\x00\xff\x01\xff\x00\xff\x00\x01"},
		{[]api.Item{list(number(1), list())}, "\x28\x15\x01\x28\x00\x00"},
		{[]api.Item{list(), list(null())}, "\x28\x00\x28\x01\x00"},
	} {
		if s, e := tuple.Pack(x.row...); s != x.want || e != api.OK {
			t.Errorf("Pack of %s: %x, %d, want %x", shown(x.row...), s, e, x.want)
		}
		if l, e := tuple.Unpack(x.want); shown(l...) != shown(x.row...) || e != api.OK {
			t.Errorf("Unpack of %x: %s, %d", x.want, shown(l...), e)
		}
	}
	for _, x := range nans() {
		if s := packed(t, x); s != "\x20\xff\xf8"+six("\x00") {
			t.Errorf("Pack of %s: %x", shown(x), s)
		}
		if l, e := tuple.Unpack(packed(t, x, x)); shown(l...) != shown(bits(oneNaN), bits(oneNaN)) || e != api.OK {
			t.Errorf("Unpack of %s: %s, %d", shown(x), shown(l...), e)
		}
	}
}

func notARow(t *testing.T, s string, want api.Errno) {
	t.Helper()
	if l, e := tuple.Unpack(s); len(l) != 0 || e != want {
		t.Errorf("Unpack of %d bytes, %.40x: %d items, %d, want %d", len(s), s, len(l), e, want)
	}
}

func TestBytesThatAreNoRows(t *testing.T) {
	for _, s := range []string{
		"\x15\x00", "\x13\xff", "\x24a", "\x20\xff\xf0\x00\x00\x00\x00\x00\x01", "\x28\x01",
		"\x00", "\x01\x00", "\x04", "\x0b", "\x1d", "\x1f", "\x21", "\x23", "\x25", "\x29", "\xff",
		"\x15", "\x16\x01", "\x16\x00\x01", "\x13", "\x12\xfe", "\x12\xff\x00",
		"\x1c\x80\x00\x00\x00\x00\x00\x00\x00", "\x1c\xff\xff\xff\xff\xff\xff\xff\xff", "\x1c\x00\xff\xff\xff\xff\xff\xff\xff",
		"\x0c\x7f\xff\xff\xff\xff\xff\xff\xfe", "\x0c\x00\x00\x00\x00\x00\x00\x00\x00", "\x0c\xff\x00\x00\x00\x00\x00\x00\x00",
		"\x20", "\x20\x80\x00\x00\x00\x00\x00\x00", "\x20\x00\x00\x00\x00\x00\x00\x00\x00", "\x20\xff\xff\xff\xff\xff\xff\xff\xff", "\x20\x00\x07\xff\xff\xff\xff\xff\xff",
		"\x24", "\x24\x00", "\x24a\x00", "\x24a\x00\x00", "\x24a\x00\x02", "\x24\x00\xff", "\x24\x00\xff\x00", "\x24a\x00\xfe",
		"\x28", "\x28\x28\x00", "\x28\x04\x00", "\x28\x15\x00\x00", "\x28\x00\x00",
	} {
		notARow(t, s, api.ErrRow)
		notARow(t, "\x01"+s, api.ErrRow)
		notARow(t, "\x28"+s+"\x00", api.ErrRow)
	}
}

func TestUnpackAtTheBounds(t *testing.T) {
	read := func(s string, items int) {
		t.Helper()
		if l, e := tuple.Unpack(s); e != api.OK || len(l) != items || packed(t, l...) != s {
			t.Errorf("%d bytes: %d items, %d", len(s), len(l), e)
		}
	}
	read(strings.Repeat("\x01", 64), 64)
	notARow(t, strings.Repeat("\x01", 65), api.ErrRow)
	read("\x28"+strings.Repeat("\x01", 63)+"\x00", 1)
	notARow(t, "\x28"+strings.Repeat("\x01", 64)+"\x00", api.ErrRow)
	read(strings.Repeat("\x28", 8)+"\x01"+strings.Repeat("\x00", 8), 1)
	notARow(t, strings.Repeat("\x28", 9)+strings.Repeat("\x00", 9), api.ErrRow)
	notARow(t, strings.Repeat("\x28", 2048)+strings.Repeat("\x00", 2048), api.ErrRow)
	notARow(t, strings.Repeat("\x28", 4096), api.ErrRow)
	notARow(t, strings.Repeat("\x28", 4097), api.ErrLong)
	read("\x24"+strings.Repeat("x", 4093)+"\x00\x01", 1)
	notARow(t, "\x24"+strings.Repeat("x", 4094)+"\x00\x01", api.ErrLong)
	notARow(t, strings.Repeat("\xff", 4096), api.ErrRow)
	notARow(t, strings.Repeat("\xff", 4097), api.ErrLong)
	notARow(t, strings.Repeat("\x01", 1<<20), api.ErrLong)
}

// strict reads an item in its one form, by the document's table alone: how many bytes it has, how many items it is, how many lists lie within one another; no bytes where there is none.
func strict(s string) (length, items, nest int) {
	if s == "" {
		return 0, 0, 0
	}
	switch b := int(s[0]); {
	case b >= 1 && b <= 3:
		return 1, 1, 0
	case b >= 0x0c && b <= 0x1c:
		m := max(b-0x14, 0x14-b)
		if len(s) < 1+m || m > 0 && (b > 0x14 && s[1] == 0 || b < 0x14 && s[1] == 0xff) {
			return 0, 0, 0
		}
		if m == 8 && (b > 0x14 && s[1] > 0x7f || b < 0x14 && s[1:9] < "\x7f\xff\xff\xff\xff\xff\xff\xff") {
			return 0, 0, 0
		}
		return 1 + m, 1, 0
	case b == 0x20 && len(s) >= 9:
		if x := s[1:9]; x > "\xff\xf0\x00\x00\x00\x00\x00\x00" && x != "\xff\xf8\x00\x00\x00\x00\x00\x00" || x < "\x00\x0f\xff\xff\xff\xff\xff\xff" {
			return 0, 0, 0
		}
		return 9, 1, 0
	case b == 0x24:
		body := strings.ReplaceAll(s[1:], "\x00\xff", "zz")
		if i := strings.IndexByte(body, 0); i >= 0 && strings.HasPrefix(body[i:], "\x00\x01") {
			return i + 3, 1, 0
		}
	case b == 0x28:
		at, items, nest := 1, 1, 0
		for at < len(s) && s[at] != 0 {
			n, more, inner := strict(s[at:])
			if n == 0 {
				return 0, 0, 0
			}
			at, items, nest = at+n, items+more, max(nest, inner)
		}
		if at < len(s) {
			return at + 1, items, nest + 1
		}
	}
	return 0, 0, 0
}

// isRow tells whether bytes are a row's, by strict.
func isRow(s string) bool {
	items := 0
	for s != "" {
		n, more, nest := strict(s)
		items += more
		if n == 0 || items > 64 || nest > 8 {
			return false
		}
		s = s[n:]
	}
	return true
}

// asStrict fails unless Unpack takes just what strict takes, and what it takes is packed as these bytes; it tells whether it did.
func asStrict(t *testing.T, s string) bool {
	t.Helper()
	l, e := tuple.Unpack(s)
	if want := isRow(s); want != (e == api.OK) || !want && (e != api.ErrRow || len(l) > 0) {
		t.Fatalf("Unpack of %x: %s, %d", s, shown(l...), e)
	}
	if e == api.OK && packed(t, l...) != s {
		t.Fatalf("Unpack of %x: %s", s, shown(l...))
	}
	return e == api.OK
}

func TestUnpackOfAllShortStrings(t *testing.T) {
	taken := 0
	var grow func(s string)
	grow = func(s string) {
		if asStrict(t, s) {
			taken++
		}
		if len(s) == 5 {
			return
		}
		for _, b := range []byte("\x00\x01\x03\x04\x12\x13\x14\x15\x16\x24\x28\xff") {
			grow(s + string([]byte{b}))
		}
	}
	grow("")
	if taken < 1000 {
		t.Error(taken)
	}
}

func TestThereAndBack(t *testing.T) {
	for _, row := range some(t, 5000, 7) {
		l, e := tuple.Unpack(packed(t, row...))
		if e != api.OK || shown(l...) != shown(withOneNaN(row...)...) {
			t.Fatalf("%s is read as %s, %d", shown(row...), shown(l...), e)
		}
		word, e := tuple.Print(row...)
		if e != api.OK {
			t.Fatal(shown(row...), e)
		}
		l, e = tuple.Parse(word)
		if e != api.OK || shown(l...) != shown(withOneNaN(row...)...) {
			t.Fatalf("%s is read as %s, %d", word, shown(l...), e)
		}
	}
}

// Bytes of rows in which somebody changes some are read just if they are a row's again.
func TestBackAndThere(t *testing.T) {
	pick := rand.New(rand.NewSource(8))
	taken, refused := 0, 0
	for _, row := range some(t, 20000, 9) {
		s := []byte(packed(t, row...))
		for range pick.Intn(3) {
			i := pick.Intn(len(s) + 1)
			b := "\x00\x01\x13\x14\x15\x1c\x0c\x20\x24\x28\x7f\x80\xf0\xf8\xfe\xff"[pick.Intn(16)]
			switch {
			case i == len(s):
				s = append(s, b)
			case pick.Intn(3) == 0:
				s = append(s[:i], s[i+1:]...)
			default:
				s[i] = b
			}
		}
		if asStrict(t, string(s)) {
			taken++
		} else {
			refused++
		}
	}
	if taken < 2000 || refused < 2000 {
		t.Error(taken, refused)
	}
}

func TestUnder(t *testing.T) {
	for _, x := range []struct {
		first  []api.Item
		lo, hi string
	}{
		{nil, "", ""},
		{[]api.Item{}, "", ""},
		{[]api.Item{text("a")}, "\x24a\x00\x01", "\x24a\x00\x02"},
		{[]api.Item{number(0)}, "\x14", "\x15"},
		{[]api.Item{number(255)}, "\x15\xff", "\x16"},
		{[]api.Item{null(), number(65535)}, "\x01\x16\xff\xff", "\x01\x17"},
		{[]api.Item{number(0xfeff)}, "\x16\xfe\xff", "\x16\xff"},
		{[]api.Item{number(math.MaxInt64)}, "\x1c\x7f\xff\xff\xff\xff\xff\xff\xff", "\x1c\x80"},
		{[]api.Item{number(math.MinInt64)}, "\x0c\x7f\xff\xff\xff\xff\xff\xff\xff", "\x0c\x80"},
		{[]api.Item{minusNought()}, "\x20\x7f\xff\xff\xff\xff\xff\xff\xff", "\x20\x80"},
		{[]api.Item{number(128)}, "\x15\x80", "\x15\x81"},
		{[]api.Item{number(0x80fe)}, "\x16\x80\xfe", "\x16\x80\xff"},
		{[]api.Item{list()}, "\x28\x00", "\x28\x01"},
	} {
		if lo, hi, e := tuple.Under(x.first...); lo != x.lo || hi != x.hi || e != api.OK {
			t.Errorf("Under of %s: %x, %x, %d", shown(x.first...), lo, hi, e)
		}
	}
}

// hi is above all bytes that begin with lo, and nothing below it is.
func TestUnderIsTheLeast(t *testing.T) {
	rows := some(t, 300, 10)
	for i, row := range rows {
		lo, hi, e := tuple.Under(row...)
		if e != api.OK || lo != packed(t, row...) {
			t.Fatalf("%x, %d", lo, e)
		}
		if len(row) == 0 {
			continue
		}
		if lo+strings.Repeat("\xff", 5000) >= hi || strings.HasPrefix(hi, lo) {
			t.Errorf("%x is not above what begins with %x", hi, lo)
		}
		below := hi[:len(hi)-1] + string([]byte{hi[len(hi)-1] - 1})
		if !strings.HasPrefix(lo, below) || strings.Count(lo[len(below):], "\xff") != len(lo)-len(below) {
			t.Errorf("%x is not the least above what begins with %x", hi, lo)
		}
		if q := packed(t, rows[(i+1)%len(rows)]...); strings.HasPrefix(q, lo) != (q >= lo && q < hi) {
			t.Errorf("%x under %x, %x", q, lo, hi)
		}
	}
}
