package tuple

import (
	"cmp"
	"math"
	"math/bits"
	"strconv"
	"strings"
)

const (
	sign     = 1 << 63
	fraction = 1<<52 - 1 // the bits behind the power's
	oneNaN   = 0x7FF8 << 48
	least    = -1074 // the power of two of which every float is a multiple
)

// compareFloats tells how two floats stand to one another: as numbers, but for NaN and the noughts.
func compareFloats(a, b float64) int {
	if math.IsNaN(a) || math.IsNaN(b) {
		return compareBools(math.IsNaN(a), math.IsNaN(b))
	}
	if a == b {
		return compareBools(math.Signbit(b), math.Signbit(a))
	}
	return cmp.Compare(a, b)
}

// bitsOf answers a float's bits, of every NaN those of the one NaN.
func bitsOf(f float64) uint64 {
	if math.IsNaN(f) {
		return oneNaN
	}
	return math.Float64bits(f)
}

// turned brings a float's bits to those that sort as the floats do.
func turned(x uint64) uint64 {
	if x&sign == 0 {
		x ^= sign
	} else {
		x ^= math.MaxUint64
	}
	return x
}

// turnedBack is turned's opposite.
func turnedBack(x uint64) uint64 {
	if x&sign == 0 {
		x ^= math.MaxUint64
	} else {
		x ^= sign
	}
	return x
}

// sayFloat lays a float's word behind b.
func sayFloat(b []byte, f float64) []byte {
	switch {
	case math.IsNaN(f):
		return append(b, "nan"...)
	case math.IsInf(f, 1):
		return append(b, "inf"...)
	case math.IsInf(f, -1):
		return append(b, "-inf"...)
	}
	if math.Signbit(f) {
		b = append(b, '-')
	}
	m, e := oddTimesPower(f)
	b = strconv.AppendUint(b, m, 10)
	b = append(b, 'p')
	return strconv.AppendInt(b, int64(e), 10)
}

// oddTimesPower answers the m and e for which a float without its sign is m * 2^e and m is odd; 0, 0 of a nought.
func oddTimesPower(f float64) (m uint64, e int) {
	x := math.Float64bits(f)
	x &^= sign
	if x == 0 {
		return 0, 0
	}
	m, e = x&fraction, least
	if power := int(x >> 52); power > 0 {
		m |= fraction + 1
		e += power - 1
	}
	even := bits.TrailingZeros64(m)
	return m >> even, e + even
}

// hearFloat answers the float of a word, and whether it looks like one's.
func hearFloat(word string) (float64, bool) {
	switch word {
	case "nan":
		return math.Float64frombits(oneNaN), true
	case "inf":
		return math.Inf(1), true
	case "-inf":
		return math.Inf(-1), true
	case "-0p0":
		return math.Copysign(0, -1), true
	}
	before, behind, _ := strings.Cut(word, "p")
	m, bad := strconv.ParseInt(before, 10, 64)
	e, worse := strconv.ParseInt(behind, 10, 16)
	if bad != nil || worse != nil {
		return 0, false
	}
	return math.Ldexp(float64(m), int(e)), true
}
