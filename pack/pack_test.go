package pack_test

import (
	"errors"
	"fmt"
	"math"
	"math/rand"
	"strings"
	"testing"

	"heartwood/api"
	"heartwood/pack"
)

func TestFaultTellsItself(t *testing.T) {
	for _, x := range []struct {
		f    pack.Fault
		want string
	}{
		{pack.Fault{Code: api.ErrRest, At: 4}, "pack: 13 at 4"},
		{pack.Fault{Code: api.ErrEnds}, "pack: 10 at 0"},
		{pack.Fault{Code: -5, At: math.MinInt}, "pack: -5 at -9223372036854775808"},
	} {
		if x.f.Error() != x.want {
			t.Errorf("%q, want %q", x.f.Error(), x.want)
		}
		if x.f.Unwrap() != error(x.f.Code) || !errors.Is(&x.f, x.f.Code) || errors.Is(&x.f, api.ErrNil) {
			t.Error(x.f.Unwrap())
		}
		var code api.Errno
		if !errors.As(&x.f, &code) || code != x.f.Code {
			t.Error(code)
		}
	}
	var none *pack.Fault
	if none.Error() != "" || none.Unwrap() != nil {
		t.Error("a nil Fault")
	}
}

func TestJoin(t *testing.T) {
	same(t, "Join()", pack.Join(), "\x00")
	same(t, "Join of an empty list", pack.Join([]string{}...), "\x00")
	same(t, "Join", pack.Join("a", ""), "\x02\x01a\x00")
	many := make([]string, 200)
	same(t, "Join of 200", pack.Join(many...), "\xc8\x01"+strings.Repeat("\x00", 200))
	same(t, "Join of a long text", pack.Join(strings.Repeat("z", 300)), "\x01\xac\x02"+strings.Repeat("z", 300))
	spare := []string{"a", "b", "c"}
	pack.Join(spare[:1]...)
	if spare[1] != "b" || spare[2] != "c" {
		t.Error(spare)
	}
}

func TestSplit(t *testing.T) {
	for _, x := range []struct {
		s    string
		code api.Errno
		at   int
	}{
		{"\x02\x01a\x00\x07", api.ErrRest, 4},
		{"\x00\x00", api.ErrRest, 1},
		{"\x05", api.ErrMost, 0},
		{"\x01", api.ErrMost, 0},
		{"\x01\x02a", api.ErrEnds, 1},
		{"", api.ErrEnds, 0},
		{"\x80", api.ErrEnds, 0},
		{"\x80\x00", api.ErrPack, 0},
		{"\x02\x01a\x80\x00", api.ErrPack, 3},
		{"\x01" + strings.Repeat("\xff", 8) + "\x7f", api.ErrEnds, 1},
		{"\x01" + strings.Repeat("\xff", 9) + "\x01", api.ErrMost, 1},
		{strings.Repeat("\xff", 9) + "\x01", api.ErrMost, 0},
	} {
		l, e := pack.Split(x.s)
		var f *pack.Fault
		if len(l) != 0 || !errors.As(e, &f) || *f != (pack.Fault{Code: x.code, At: x.at}) {
			t.Errorf("Split of %x: %q, %v, want %d at %d", x.s, l, e, x.code, x.at)
		}
	}
	if l, e := pack.Split("\x00"); len(l) != 0 || e != nil {
		t.Error(l, e)
	}
}

// short calls do with every string of at most four bytes out of a few that matter.
func short(do func(s string)) {
	var grow func(s string)
	grow = func(s string) {
		do(s)
		if len(s) == 4 {
			return
		}
		for _, b := range []byte("\x00\x01\x02\x03\x7f\x80\x81\xff") {
			grow(s + string([]byte{b}))
		}
	}
	grow("")
}

// What Split takes is Join of it; what it doesn't take is told as a reader of the list tells it.
func TestSplitOfAllShortStrings(t *testing.T) {
	short(func(s string) {
		l, e := pack.Split(s)
		if e == nil {
			same(t, "Join of Split", pack.Join(l...), s)
		}
		r := pack.Open(s)
		pack.List(r, math.MaxInt, func(r *pack.Reader) string { return r.Text(math.MaxInt) })
		want := r.End()
		if (e == nil) != (want == nil) || e != nil && e.Error() != want.Error() {
			t.Errorf("Split of %x: %v, want %v", s, e, want)
		}
	})
}

// One form: no two strings are read whole as one number, one text, one list of texts.
func TestOneForm(t *testing.T) {
	free, signed, texts, joins := map[uint64]string{}, map[int64]string{}, map[string]string{}, map[string]string{}
	short(func(s string) {
		alone(t, free, s, func(r *pack.Reader) uint64 { return r.Free(math.MaxUint64) })
		alone(t, signed, s, (*pack.Reader).Signed)
		alone(t, texts, s, func(r *pack.Reader) string { return r.Text(math.MaxInt) })
		if l, e := pack.Split(s); e == nil {
			alone(t, joins, s, func(r *pack.Reader) string { r.Raw(len(s)); return fmt.Sprintf("%q", l) })
		}
	})
	if len(free) < 100 || len(signed) < 100 || len(texts) < 100 || len(joins) < 20 {
		t.Error("too few were read:", len(free), len(signed), len(texts), len(joins))
	}
}

// alone fails if s is read whole as something as which another string was read.
func alone[T comparable](t *testing.T, seen map[T]string, s string, read func(r *pack.Reader) T) {
	t.Helper()
	r := pack.Open(s)
	x := read(r)
	if r.End() != nil {
		return
	}
	if other, ok := seen[x]; ok {
		t.Errorf("%x and %x are both %v", other, s, x)
	}
	seen[x] = s
}

// No form is the beginning of another one of its kind.
func TestNoFormBeginsAnother(t *testing.T) {
	var free, texts, joins []string
	for _, n := range numbers() {
		free = append(free, written(t, func(w *pack.Writer) { w.Free(n) }))
	}
	short(func(s string) {
		if len(s) < 3 {
			texts = append(texts, written(t, func(w *pack.Writer) { w.Text(s) }))
			joins = append(joins, pack.Join(s), pack.Join("", s), pack.Join(s, "a"))
		}
	})
	texts = append(texts, written(t, func(w *pack.Writer) { w.Text(strings.Repeat("\x00", 128)) }))
	joins = append(joins, pack.Join(), pack.Join("", "", ""), pack.Join(make([]string, 128)...))
	for _, forms := range [][]string{free, texts, joins} {
		for _, a := range forms {
			for _, b := range forms {
				if a != b && strings.HasPrefix(b, a) {
					t.Errorf("%x begins %x", a, b)
				}
			}
		}
	}
}

func TestFixedNumbersSort(t *testing.T) {
	for _, a := range numbers() {
		for _, b := range numbers() {
			sorts(t, a, b)
			sorts(t, uint32(a), uint32(b))
			sorts(t, uint16(a), uint16(b))
			sorts(t, uint8(a), uint8(b))
		}
	}
}

func sorts[N uint8 | uint16 | uint32 | uint64](t *testing.T, a, b N) {
	t.Helper()
	if (laid(a) < laid(b)) != (a < b) {
		t.Errorf("%d and %d sort otherwise as bytes", a, b)
	}
}

// step is a call that lays a thing, and the same one that reads it, and answers whether it is the same.
type step struct {
	lay  func(w *pack.Writer)
	read func(r *pack.Reader) bool
}

func fixed[N pack.Whole](n uint64) step {
	x := N(n)
	return step{func(w *pack.Writer) { pack.Put(w, x) }, func(r *pack.Reader) bool { return pack.Take[N](r) == x }}
}

// steps answers what one picks among all kinds of things, with bounds as great as what stands there.
func steps(pick *rand.Rand) step {
	n := pick.Uint64() >> pick.Intn(64)
	s := string(bytesOf(pick, pick.Intn(200)))
	width := pick.Intn(40) - 3
	d := digest()
	cut := d
	clear(cut[max(0, min(width, 32)):])
	switch pick.Intn(14) {
	case 0:
		return fixed[uint8](n)
	case 1:
		return fixed[int8](n)
	case 2:
		return fixed[uint16](n)
	case 3:
		return fixed[int16](n)
	case 4:
		return fixed[uint32](n)
	case 5:
		return fixed[int32](n)
	case 6:
		return fixed[uint64](n)
	case 7:
		return fixed[int64](n)
	case 8:
		return step{func(w *pack.Writer) { w.Free(n) }, func(r *pack.Reader) bool { return r.Free(n) == n }}
	case 9:
		return step{func(w *pack.Writer) { w.Signed(int64(n)) }, func(r *pack.Reader) bool { return r.Signed() == int64(n) }}
	case 10:
		return step{func(w *pack.Writer) { w.Raw(s) }, func(r *pack.Reader) bool { return r.Raw(len(s)) == s }}
	case 11:
		return step{func(w *pack.Writer) { w.Text(s) }, func(r *pack.Reader) bool { return r.Text(len(s)) == s }}
	case 12:
		return step{func(w *pack.Writer) { w.Digest(width, d) }, func(r *pack.Reader) bool { return r.Digest(width) == cut }}
	}
	return list(pick)
}

func bytesOf(pick *rand.Rand, n int) []byte {
	b := make([]byte, n)
	pick.Read(b)
	return b
}

// list answers a step of a list of texts.
func list(pick *rand.Rand) step {
	l := make([]string, pick.Intn(5))
	for i := range l {
		l[i] = string(bytesOf(pick, pick.Intn(140)))
	}
	return step{
		func(w *pack.Writer) { pack.Each(w, l, (*pack.Writer).Text) },
		func(r *pack.Reader) bool {
			got := pack.List(r, len(l), func(r *pack.Reader) string { return r.Text(140) })
			return pack.Join(got...) == pack.Join(l...)
		},
	}
}

func TestThereAndBack(t *testing.T) {
	pick := rand.New(rand.NewSource(1))
	for range 2000 {
		w := pack.New()
		var all []step
		for range pick.Intn(12) {
			all = append(all, steps(pick))
			all[len(all)-1].lay(w)
		}
		r := pack.Open(w.String())
		for i, x := range all {
			if !x.read(r) {
				t.Fatalf("step %d of %x is read as something else", i, w.String())
			}
		}
		if e := r.End(); e != nil {
			t.Fatalf("%x: %v", w.String(), e)
		}
	}
}

// again reads a thing of some kind, and lays what was read.
func again(kind int, r *pack.Reader, w *pack.Writer) {
	switch kind {
	case 0:
		pack.Put(w, pack.Take[uint16](r))
	case 1:
		pack.Put(w, pack.Take[int32](r))
	case 2:
		w.Free(r.Free(math.MaxUint64))
	case 3:
		w.Signed(r.Signed())
	case 4:
		w.Text(r.Text(9))
	case 5:
		w.Digest(3, r.Digest(3))
	case 6:
		w.Raw(r.Raw(2))
	case 7:
		pack.Each(w, pack.List(r, 9, pack.Take[int8]), pack.Put[int8])
	}
}

func TestBackAndThere(t *testing.T) {
	pick := rand.New(rand.NewSource(2))
	whole := 0
	for range 20000 {
		s := bytesOf(pick, pick.Intn(20))
		for i := range s {
			if pick.Intn(2) == 0 {
				s[i] %= 4
			}
		}
		r, w := pack.Open(string(s)), pack.New()
		for {
			v := pack.New()
			again(pick.Intn(8), r, v)
			if r.Fault() != nil {
				break
			}
			w.Raw(v.String())
			if r.Left() == 0 {
				whole++
				break
			}
		}
		same(t, "what is written again", w.String(), string(s[:r.At()]))
	}
	if whole < 1000 {
		t.Error("only", whole, "were read to their end")
	}
}
