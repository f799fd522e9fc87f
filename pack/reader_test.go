package pack_test

import (
	"errors"
	"math"
	"strings"
	"testing"

	"heartwood/api"
	"heartwood/pack"
)

// clean fails unless the reader has no fault and stands at that place.
func clean(t *testing.T, r *pack.Reader, at, left int) {
	t.Helper()
	if r.Fault() != nil || r.At() != at || r.Left() != left {
		t.Errorf("fault %v, at %d, left %d; want none, %d, %d", r.Fault(), r.At(), r.Left(), at, left)
	}
}

// faulty fails unless the reader has that fault, stands at its place, and reads nothing any more.
func faulty(t *testing.T, r *pack.Reader, code api.Errno, at int) {
	t.Helper()
	left := r.Left()
	mute(t, r)
	f := r.Fault()
	if f == nil || f.Code != code || f.At != at || r.At() != at || r.Left() != left {
		t.Errorf("fault %v, at %d, left %d; want %d at %d, left %d", f, r.At(), r.Left(), code, at, left)
	}
	var told *pack.Fault
	if e := r.End(); !errors.As(e, &told) || *told != (pack.Fault{Code: code, At: at}) {
		t.Errorf("End is %v, want %d at %d", e, code, at)
	}
}

// mute fails unless every call that reads answers zero.
func mute(t *testing.T, r *pack.Reader) {
	t.Helper()
	if pack.Take[uint8](r) != 0 || pack.Take[int64](r) != 0 {
		t.Error("Take answers something")
	}
	if r.Free(math.MaxUint64) != 0 || r.Signed() != 0 {
		t.Error("Free or Signed answers something")
	}
	if r.Raw(0) != "" || r.Raw(1) != "" || r.Text(math.MaxInt) != "" || r.Digest(1) != (api.Digest{}) {
		t.Error("Raw, Text or Digest answers something")
	}
	calls := func(r *pack.Reader) int { t.Error("List calls one"); return 0 }
	if len(pack.List(r, math.MaxInt, calls)) != 0 || len(pack.List[int](r, math.MaxInt, nil)) != 0 {
		t.Error("List answers something")
	}
}

func taken[N pack.Whole](t *testing.T, s string, want N) {
	t.Helper()
	r := pack.Open(s + "rest")
	if x := pack.Take[N](r); x != want {
		t.Errorf("Take of %x: %d, want %d", s, x, want)
	}
	clean(t, r, len(s), 4)
	for short := range len(s) {
		r := pack.Open("ahead" + s[:short])
		r.Raw(5)
		if x := pack.Take[N](r); x != 0 {
			t.Errorf("Take of %x: %d", s[:short], x)
		}
		faulty(t, r, api.ErrEnds, 5)
	}
}

func TestTake(t *testing.T) {
	taken(t, "\xff", uint8(255))
	taken(t, "\x80", int8(-128))
	taken(t, "\x01\x02", uint16(258))
	taken(t, "\xff\xfe", int16(-2))
	taken(t, "\x80\x00\x00\x01", uint32(1<<31+1))
	taken(t, "\x80\x00\x00\x00", int32(math.MinInt32))
	taken(t, "\xff\xff\xff\xff\xff\xff\xff\xff", uint64(math.MaxUint64))
	taken(t, "\x80\x00\x00\x00\x00\x00\x00\x00", int64(math.MinInt64))
	taken(t, "\xfd", small(-3))
	taken(t, "\x00\x00\x00\x00\x00\x00\x00\x05", wide(5))
	taken(t, "\x02", api.PageBranch)
}

func TestTakeTwice(t *testing.T) {
	r := pack.Open("\x00\x01\x02")
	if a, b := pack.Take[uint16](r), pack.Take[uint16](r); a != 1 || b != 0 {
		t.Error(a, b)
	}
	if r.At() != 2 || r.Left() != 1 {
		t.Error(r.At(), r.Left())
	}
	faulty(t, r, api.ErrEnds, 2)
}

func TestFreeIsRead(t *testing.T) {
	for _, n := range numbers() {
		s := written(t, func(w *pack.Writer) { w.Free(n) })
		r := pack.Open(s + "\x00")
		if x := r.Free(n); x != n {
			t.Errorf("Free of %x: %d, want %d", s, x, n)
		}
		clean(t, r, len(s), 1)
		if n > 0 {
			r := pack.Open(s)
			if x := r.Free(n - 1); x != 0 {
				t.Error(x)
			}
			faulty(t, r, api.ErrMost, 0)
		}
		r = pack.Open(s[:len(s)-1])
		r.Free(math.MaxUint64)
		faulty(t, r, api.ErrEnds, 0)
	}
}

func TestFreeFaults(t *testing.T) {
	nine := strings.Repeat("\xff", 9)
	for _, x := range []struct {
		s      string
		most   uint64
		code   api.Errno
		signed api.Errno // of the same bytes as a signed number
	}{
		{"", 9, api.ErrEnds, api.ErrEnds},
		{"\x80", 9, api.ErrEnds, api.ErrEnds},
		{"\xff\xff", 0, api.ErrEnds, api.ErrEnds},
		{nine, 9, api.ErrEnds, api.ErrEnds},
		{"\x80\x00", 9, api.ErrPack, api.ErrPack},
		{"\xff\x00", 0, api.ErrPack, api.ErrPack},
		{"\xff\x80\x00", 9, api.ErrPack, api.ErrPack},
		{nine + "\x00", math.MaxUint64, api.ErrPack, api.ErrPack},
		{nine + "\x02", math.MaxUint64, api.ErrPack, api.ErrPack},
		{nine + "\x80", math.MaxUint64, api.ErrPack, api.ErrPack},
		{nine + "\xff", 9, api.ErrPack, api.ErrPack},
		{nine + "\x81\x00", 9, api.ErrPack, api.ErrPack},
		{"\x0a", 9, api.ErrMost, api.OK},
		{"\x01", 0, api.ErrMost, api.OK},
		{nine + "\x01", math.MaxUint64 - 1, api.ErrMost, api.OK},
	} {
		r := pack.Open("..." + x.s)
		r.Raw(3)
		if n := r.Free(x.most); n != 0 {
			t.Errorf("%x: %d", x.s, n)
		}
		faulty(t, r, x.code, 3)
		r = pack.Open("..." + x.s)
		r.Raw(3)
		n := r.Signed()
		if x.signed == api.OK {
			clean(t, r, 3+len(x.s), 0)
			continue
		}
		if n != 0 {
			t.Errorf("%x: %d", x.s, n)
		}
		faulty(t, r, x.signed, 3)
	}
}

func TestSignedIsRead(t *testing.T) {
	for _, n := range numbers() {
		want := int64(n)
		s := written(t, func(w *pack.Writer) { w.Signed(want) })
		r := pack.Open(s)
		if x := r.Signed(); x != want {
			t.Errorf("Signed of %x: %d, want %d", s, x, want)
		}
		clean(t, r, len(s), 0)
	}
}

func TestRawAndDigestAreRead(t *testing.T) {
	for _, n := range []int{math.MinInt, -1, 0} {
		r := pack.Open("abc")
		if s := r.Raw(n); s != "" {
			t.Errorf("Raw(%d): %q", n, s)
		}
		if d := r.Digest(n); d != (api.Digest{}) {
			t.Error(d)
		}
		clean(t, r, 0, 3)
	}
	r := pack.Open("abc")
	if a, b := r.Raw(2), r.Raw(1); a != "ab" || b != "c" {
		t.Error(a, b)
	}
	clean(t, r, 3, 0)
	r.Raw(0)
	clean(t, r, 3, 0)
	for _, n := range []int{3, 4, math.MaxInt} {
		r := pack.Open("abc")
		r.Raw(1)
		if s := r.Raw(n); s != "" {
			t.Error(s)
		}
		faulty(t, r, api.ErrEnds, 1)
	}
}

func TestDigestIsRead(t *testing.T) {
	all := digest()
	for _, width := range []int{1, 2, 31, 32, 33, math.MaxInt} {
		n := min(width, 32)
		want := all
		clear(want[n:])
		r := pack.Open(string(all[:]) + "x")
		if d := r.Digest(width); d != want {
			t.Errorf("Digest(%d): %x", width, d)
		}
		clean(t, r, n, 33-n)
		r = pack.Open(string(all[:n-1]))
		if d := r.Digest(width); d != (api.Digest{}) {
			t.Errorf("Digest(%d) of fewer bytes: %x", width, d)
		}
		faulty(t, r, api.ErrEnds, 0)
	}
}

func TestTextIsRead(t *testing.T) {
	for _, x := range []struct {
		s    string
		most int
		want string
		code api.Errno
	}{
		{"\x02ab", 2, "ab", api.OK},
		{"\x02ab", math.MaxInt, "ab", api.OK},
		{"\x00", 0, "", api.OK},
		{"\x00", -1, "", api.OK},
		{"\x00", math.MinInt, "", api.OK},
		{"\x02ab", 1, "", api.ErrMost},
		{"\x02", 1, "", api.ErrMost},
		{"\x01a", -1, "", api.ErrMost},
		{"\x01a", math.MinInt, "", api.ErrMost},
		{"\x02a", 2, "", api.ErrEnds},
		{"\x02", 2, "", api.ErrEnds},
		{"", 2, "", api.ErrEnds},
		{"\x82\x00ab", 2, "", api.ErrPack},
		{strings.Repeat("\xff", 8) + "\x7f", math.MaxInt, "", api.ErrEnds},
		{strings.Repeat("\xff", 9) + "\x01", math.MaxInt, "", api.ErrMost},
	} {
		r := pack.Open("." + x.s)
		r.Raw(1)
		if s := r.Text(x.most); s != x.want {
			t.Errorf("Text(%d) of %x: %q", x.most, x.s, s)
		}
		if x.code == api.OK {
			clean(t, r, 1+len(x.s), 0)
		} else {
			faulty(t, r, x.code, 1)
		}
	}
}

func TestListIsRead(t *testing.T) {
	r := pack.Open("\x02\x00\x05\x00\x06\x07")
	l := pack.List(r, 2, pack.Take[uint16])
	if len(l) != 2 || l[0] != 5 || l[1] != 6 {
		t.Error(l)
	}
	clean(t, r, 5, 1)
	for _, most := range []int{0, -1, math.MinInt, math.MaxInt} {
		r := pack.Open("\x00")
		if l := pack.List(r, most, pack.Take[uint8]); len(l) != 0 {
			t.Error(l)
		}
		clean(t, r, 1, 0)
	}
	r = pack.Open("\x03abc")
	if l := pack.List[string](r, 3, nil); len(l) != 3 || l[0] != "" || l[2] != "" {
		t.Error(l)
	}
	clean(t, r, 1, 3)
	r = pack.Open("\x03abc")
	n := 0
	l2 := pack.List(r, 3, func(v *pack.Reader) int {
		if v != r {
			t.Error("another Reader is handed on")
		}
		n++
		return n
	})
	if len(l2) != 3 || l2[0] != 1 || l2[1] != 2 || l2[2] != 3 {
		t.Error(l2)
	}
	clean(t, r, 1, 3)
}

func TestListFaults(t *testing.T) {
	for _, x := range []struct {
		s     string
		most  int
		code  api.Errno
		at    int // counted from behind the byte ahead
		calls int
	}{
		{"", 9, api.ErrEnds, 0, 0},
		{"\x80\x00", 9, api.ErrPack, 0, 0},
		{"\x03\x00\x00\x00", 2, api.ErrMost, 0, 0},
		{"\x01\x00", -1, api.ErrMost, 0, 0},
		{"\x01\x00", math.MinInt, api.ErrMost, 0, 0},
		{"\x03\x00\x00", 9, api.ErrMost, 0, 0},
		{strings.Repeat("\xff", 9) + "\x01", math.MaxInt, api.ErrMost, 0, 0},
		{"\x04\x01a\x02b", 9, api.ErrEnds, 3, 2},
		{"\x03\x01a\x80\x00\x00", 9, api.ErrPack, 3, 2},
	} {
		r := pack.Open("." + x.s)
		r.Raw(1)
		calls := 0
		l := pack.List(r, x.most, func(r *pack.Reader) string { calls++; return r.Text(9) })
		if len(l) != 0 || calls != x.calls {
			t.Errorf("List of %x: %q, %d calls", x.s, l, calls)
		}
		faulty(t, r, x.code, 1+x.at)
	}
}

// A fault in the last thing of a list leaves none of it.
func TestListWhoseLastThingFails(t *testing.T) {
	r := pack.Open("\x02ab")
	l := pack.List(r, 2, func(r *pack.Reader) uint16 { return pack.Take[uint16](r) })
	if len(l) != 0 {
		t.Error(l)
	}
	faulty(t, r, api.ErrEnds, 3)
	if l := pack.List[int](pack.Open("\x02a"), 9, nil); len(l) != 0 {
		t.Error(l)
	}
}

func TestListsAreNewMemory(t *testing.T) {
	read := func() []uint8 { return pack.List(pack.Open("\x03\x01\x02\x03"), 3, pack.Take[uint8]) }
	a, b := read(), read()
	clear(a[:cap(a)])
	if b[0] != 1 || b[1] != 2 || b[2] != 3 {
		t.Error(b)
	}
	s, _ := pack.Split("\x02\x01a\x01b")
	s[0] = "x"
	if u, _ := pack.Split("\x02\x01a\x01b"); u[0] != "a" {
		t.Error(u)
	}
}

func TestPlaces(t *testing.T) {
	r := pack.Open("abc")
	clean(t, r, 0, 3)
	for i := range 3 {
		var f *pack.Fault
		if e := r.End(); !errors.As(e, &f) || *f != (pack.Fault{Code: api.ErrRest, At: i}) || !errors.Is(e, api.ErrRest) {
			t.Error(e)
		}
		clean(t, r, i, 3-i)
		r.Raw(1)
	}
	if e := r.End(); e != nil {
		t.Error(e)
	}
	if e := pack.Open("").End(); e != nil {
		t.Error(e)
	}
}

func TestFaultIsNewEachTime(t *testing.T) {
	r := pack.Open("a")
	r.Raw(2)
	one := r.Fault()
	one.Code, one.At = 99, 99
	var told *pack.Fault
	if !errors.As(r.End(), &told) {
		t.Fatal("End is no Fault")
	}
	told.Code, told.At = 98, 98
	faulty(t, r, api.ErrEnds, 0)
	if r.Fault() == r.Fault() {
		t.Error("two calls of Fault answer one Fault")
	}
}

func TestReadersThatAreNotThere(t *testing.T) {
	for _, r := range []*pack.Reader{nil, {}, new(pack.Reader)} {
		mute(t, r)
		r.Raw(math.MaxInt)
		r.Text(math.MinInt)
		r.Digest(math.MinInt)
		if r.Left() != 0 || r.At() != 0 || r.Fault() != nil || r.End() != error(api.ErrNil) {
			t.Error(r.Left(), r.At(), r.Fault(), r.End())
		}
	}
}
