package pack

import "heartwood/api"

// Writer is bytes that are laid one behind the other. It is made by New alone.
type Writer struct {
	made bool // tells it from one that New did not make
	laid []byte
}

// New makes a Writer without bytes.
func New() *Writer { return &Writer{made: true} }

func (w *Writer) there() bool { return w != nil && w.made }

// Put lays a fixed number.
func Put[N Whole](w *Writer, x N) {
	if !w.there() {
		return
	}
	for i := size[N]() - 1; i >= 0; i-- {
		w.laid = append(w.laid, byte(x>>(8*i)))
	}
}

// Each lays a list, each thing of it by one.
func Each[T any](w *Writer, l []T, one func(w *Writer, x T)) {
	if !w.there() {
		return
	}
	w.Free(uint64(len(l)))
	if one == nil {
		return
	}
	for _, x := range l {
		one(w, x)
	}
}

// Free lays a free number.
func (w *Writer) Free(n uint64) {
	if !w.there() {
		return
	}
	for ; n > 127; n >>= 7 {
		w.laid = append(w.laid, byte(n&127)+128)
	}
	w.laid = append(w.laid, byte(n))
}

// Signed lays a signed free number.
func (w *Writer) Signed(n int64) {
	twice := uint64(n) << 1
	if n < 0 {
		twice = ^twice // that is -2n - 1, and does not overflow at the least n
	}
	w.Free(twice)
}

// Raw lays the parts as they are.
func (w *Writer) Raw(parts ...string) {
	if !w.there() {
		return
	}
	for _, part := range parts {
		w.laid = append(w.laid, part...)
	}
}

// Text lays a text.
func (w *Writer) Text(s string) {
	w.Free(uint64(len(s)))
	w.Raw(s)
}

// Digest lays a digest of a width.
func (w *Writer) Digest(width int, d api.Digest) {
	w.Raw(string(d[:counting(width)]))
}

// Len tells how many bytes were laid.
func (w *Writer) Len() int {
	if !w.there() {
		return 0
	}
	return len(w.laid)
}

// String answers the bytes that were laid.
func (w *Writer) String() string {
	if !w.there() {
		return ""
	}
	return string(w.laid)
}
