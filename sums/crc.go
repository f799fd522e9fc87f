package sums

import "heartwood/api"

// A CRC's register stands for a polynomial over the bits: the highest bit is x to the 0, the lowest one x to the 31. To go one place towards the low end, and to turn by polynomial if a bit 1 falls out, is to multiply it by x.
const (
	polynomial = 0xedb88320
	unit       = 1 << 31
	byteStep   = 1 << 23 // x to the 8: a byte 0 goes by
)

// nibbles says what the register i comes to while four bits 0 go by.
var nibbles = [16]uint32{
	0x00000000, 0x1db71064, 0x3b6e20c8, 0x26d930ac, 0x76dc4190, 0x6b6b51f4, 0x4db26158, 0x5005713c,
	0xedb88320, 0xf00f9344, 0xd6d6a3e8, 0xcb61b38c, 0x9b64c2b0, 0x86d3d2d4, 0xa00ae278, 0xbdbdf21c,
}

// CRC answers the CRC of the parts, one behind the other.
func CRC(parts ...string) uint32 {
	var sum uint32
	for _, part := range parts {
		sum = More(sum, part)
	}
	return sum
}

// More answers the CRC of bytes whose CRC is sum, with s behind them.
func More(sum uint32, s string) uint32 {
	register := ^sum
	for i := range len(s) {
		register ^= uint32(s[i])
		register = register>>4 ^ nibbles[register&15]
		register = register>>4 ^ nibbles[register&15]
	}
	return ^register
}

// Join answers the CRC of bytes whose CRC is a, with n bytes behind them whose CRC is b. Registers go linearly, so the two ends' turning over falls out, and what is left is a, brought on by n bytes 0, turned by b.
func Join(a, b uint32, n int) (uint32, api.Errno) {
	if n < 0 {
		return 0, api.ErrArg
	}
	return times(a, power(byteStep, n)) ^ b, api.OK
}

// power answers the register a to the n, by squares, as n may be the greatest int.
func power(a uint32, n int) uint32 {
	p := uint32(unit)
	for ; n > 0; n /= 2 {
		if n%2 == 1 {
			p = times(p, a)
		}
		a = times(a, a)
	}
	return p
}

// times answers the product of two registers.
func times(a, b uint32) uint32 {
	var p uint32
	for ; a != 0; a <<= 1 {
		if a&unit != 0 {
			p ^= b
		}
		b = step(b)
	}
	return p
}

// step multiplies a register by x.
func step(register uint32) uint32 {
	if register&1 != 0 {
		return register>>1 ^ polynomial
	}
	return register >> 1
}
