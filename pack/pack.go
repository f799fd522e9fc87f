// Package pack is layer 1: see shared/doc/01-pack.md.
package pack

import (
	"math"

	"heartwood/api"
)

// Whole is the constraint of the numbers that are laid in a fixed form.
type Whole interface {
	~uint8 | ~uint16 | ~uint32 | ~uint64 | ~int8 | ~int16 | ~int32 | ~int64
}

// size tells how many bytes N has. The one bit wanders bit by bit, as a shift by a whole byte is too far for the smallest types.
func size[N Whole]() int {
	bits := 0
	for x := N(1); x != 0; x <<= 1 {
		bits++
	}
	return bits / 8
}

// counted brings a bound or a number of bytes that may be below 0 to one that counts.
func counted(n int) int { return max(n, 0) }

// counting brings a width to the bytes that a digest has.
func counting(width int) int { return min(counted(width), api.MaxWidth) }

// Join answers the bytes of the list of these texts.
func Join(parts ...string) string {
	w := New()
	Each(w, parts, (*Writer).Text)
	return w.String()
}

// Split answers the texts of which s is Join; else none, and a *Fault.
func Split(s string) ([]string, error) {
	r := Open(s)
	parts := List(r, math.MaxInt, func(r *Reader) string { return r.Text(math.MaxInt) })
	if e := r.End(); e != nil {
		return nil, e
	}
	return parts, nil
}
