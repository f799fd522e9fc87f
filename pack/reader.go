package pack

import (
	"math"

	"heartwood/api"
)

// mostGroups is how many bytes a free number has at most: nine groups of seven bits, and one bit more.
const mostGroups = 10

// Reader stands at a place in bytes. It is made by Open alone.
type Reader struct {
	made  bool // tells it from one that Open did not make
	bytes string
	at    int
	code  api.Errno // of the fault, whose place is at: a reader stays where it found one
}

// Open makes a Reader at the beginning of s.
func Open(s string) *Reader { return &Reader{made: true, bytes: s} }

func (r *Reader) there() bool { return r != nil && r.made }

// reads tells whether calls that read still do something.
func (r *Reader) reads() bool { return r.there() && r.code == api.OK }

// fail makes what begins at that place the reader's fault.
func (r *Reader) fail(at int, code api.Errno) {
	r.at = at
	r.code = code
}

// Take reads a fixed number.
func Take[N Whole](r *Reader) N {
	var x uint64
	for _, b := range []byte(r.Raw(size[N]())) {
		x = x<<8 | uint64(b)
	}
	return N(x)
}

// List reads a list of at most so many things, each of them by one.
func List[T any](r *Reader, most int, one func(r *Reader) T) []T {
	start := r.At()
	n := r.Free(uint64(counted(most)))
	if n > uint64(r.Left()) {
		r.fail(start, api.ErrMost)
	}
	if !r.reads() {
		return nil
	}
	if one == nil {
		return make([]T, n)
	}
	var l []T
	for ; n > 0 && r.reads(); n-- {
		l = append(l, one(r))
	}
	if !r.reads() {
		return nil
	}
	return l
}

// Free reads a free number that is not above most.
func (r *Reader) Free(most uint64) uint64 {
	if !r.reads() {
		return 0
	}
	n, length, code := free(r.bytes[r.at:])
	if code == api.OK && n > most {
		code = api.ErrMost
	}
	if code != api.OK {
		r.fail(r.at, code)
		return 0
	}
	r.at += length
	return n
}

// free answers the free number at the beginning of s, and how many bytes it has.
func free(s string) (n uint64, length int, code api.Errno) {
	for i := range mostGroups {
		if i == len(s) {
			return 0, 0, api.ErrEnds
		}
		b := s[i]
		if i == mostGroups-1 && b > 1 {
			return 0, 0, api.ErrPack
		}
		n |= uint64(b&127) << (7 * i)
		if b > 127 {
			continue
		}
		if b == 0 && i > 0 {
			return 0, 0, api.ErrPack
		}
		return n, i + 1, api.OK
	}
	return 0, 0, api.ErrPack
}

// Signed reads a signed free number.
func (r *Reader) Signed() int64 {
	n := r.Free(math.MaxUint64)
	if n%2 == 1 {
		return ^int64(n / 2)
	}
	return int64(n / 2)
}

// Raw reads so many bytes.
func (r *Reader) Raw(n int) string {
	if !r.reads() {
		return ""
	}
	n = counted(n)
	if r.Left() < n {
		r.fail(r.at, api.ErrEnds)
		return ""
	}
	r.at += n
	return r.bytes[r.at-n : r.at]
}

// Text reads a text of at most so many bytes.
func (r *Reader) Text(most int) string {
	start := r.At()
	n := int(r.Free(uint64(counted(most))))
	if r.Left() < n {
		r.fail(start, api.ErrEnds)
	}
	return r.Raw(n)
}

// Digest reads a digest of a width.
func (r *Reader) Digest(width int) api.Digest {
	var d api.Digest
	copy(d[:], r.Raw(counting(width)))
	return d
}

// Left tells how many bytes are left.
func (r *Reader) Left() int {
	if !r.there() {
		return 0
	}
	return len(r.bytes) - r.at
}

// At tells the reader's place.
func (r *Reader) At() int {
	if !r.there() {
		return 0
	}
	return r.at
}

// Fault answers the fault, if there is one.
func (r *Reader) Fault() *Fault {
	if !r.there() || r.code == api.OK {
		return nil
	}
	return &Fault{Code: r.code, At: r.at}
}

// End answers why this is not the end of bytes that could be read, if so.
func (r *Reader) End() error {
	if !r.there() {
		return api.ErrNil
	}
	if f := r.Fault(); f != nil {
		return f
	}
	if r.Left() > 0 {
		return &Fault{Code: api.ErrRest, At: r.at}
	}
	return nil
}
