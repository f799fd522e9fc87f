// Package sums is layer 2: see shared/doc/02-sums.md.
package sums

import (
	"heartwood/api"
)

// digits are the hexadecimal ones, each at its number.
const digits = "0123456789abcdef"

func mayBe(width int) bool { return width >= 1 && width <= api.MaxWidth }

// Cut answers the digest with its bytes from the width on made 0.
func Cut(width int, d api.Digest) (api.Digest, api.Errno) {
	if !mayBe(width) {
		return api.Digest{}, api.ErrArg
	}
	clear(d[width:])
	return d, api.OK
}

// Fits tells whether a digest is one of that width.
func Fits(width int, d api.Digest) bool {
	c, e := Cut(width, d)
	return e == api.OK && c == d
}

// Of answers the digest of a text.
func Of(width int, text string) (api.Digest, api.Errno) {
	if !mayBe(width) {
		return api.Digest{}, api.ErrArg
	}
	return Cut(width, Sum(text))
}

// Digest answers the digest of the text of a tag and parts.
func Digest(width int, tag string, parts ...string) (api.Digest, api.Errno) {
	if !mayBe(width) {
		return api.Digest{}, api.ErrArg
	}
	text, e := Text(tag, parts...)
	if e != api.OK {
		return api.Digest{}, e
	}
	return Of(width, text)
}

// Clash tells whether two unlike texts have one digest.
func Clash(width int, x, y string) bool {
	if !mayBe(width) || x == y {
		return false
	}
	one, _ := Of(width, x)
	two, _ := Of(width, y)
	return one == two
}

// Show answers the digits of a digest.
func Show(width int, d api.Digest) (string, api.Errno) {
	if !Fits(width, d) {
		return "", api.ErrArg
	}
	var s []byte
	for _, b := range d[:width] {
		s = append(s, digits[b>>4], digits[b&15])
	}
	return string(s), api.OK
}

// Read answers the digest whose digits s is.
func Read(width int, s string) (api.Digest, api.Errno) {
	if !mayBe(width) {
		return api.Digest{}, api.ErrArg
	}
	if len(s) != 2*width {
		return api.Digest{}, api.ErrText
	}
	var d api.Digest
	for i := range len(s) {
		n, ok := digit(s[i])
		if !ok {
			return api.Digest{}, api.ErrText
		}
		d[i/2] <<= 4
		d[i/2] |= n
	}
	return d, api.OK
}

// digit answers the number of a hexadecimal digit; the great letters are none, as digits have one form.
func digit(c byte) (byte, bool) {
	switch {
	case c >= '0' && c <= '9':
		return c - '0', true
	case c >= 'a' && c <= 'f':
		return c - 'a' + 10, true
	}
	return 0, false
}
