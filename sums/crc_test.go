package sums_test

import (
	"hash/crc32"
	"math"
	"math/rand"
	"strings"
	"testing"

	"heartwood/api"
	"heartwood/sums"
)

// slow answers the CRC as the document words it, bit by bit.
func slow(s string) uint32 {
	register := uint32(math.MaxUint32)
	for i := range len(s) {
		for bit := range 8 {
			unlike := register&1 != uint32(s[i]>>bit&1)
			register >>= 1
			if unlike {
				register ^= 0xedb88320
			}
		}
	}
	return ^register
}

// texts answers strings of many lengths, those beside the borders of SHA-256's blocks among them.
func texts() []string {
	pick := rand.New(rand.NewSource(3))
	var out []string
	for n := range 200 {
		b := make([]byte, n)
		pick.Read(b)
		out = append(out, string(b))
	}
	for _, n := range []int{255, 256, 257, 1000, 8191, 8192} {
		out = append(out, strings.Repeat("\x00", n), strings.Repeat("\xff", n))
	}
	return out
}

func TestCRC(t *testing.T) {
	for _, x := range []struct {
		parts []string
		want  uint32
	}{
		{nil, 0}, {[]string{}, 0}, {[]string{""}, 0}, {[]string{"", ""}, 0},
		{[]string{"a"}, 0xe8b7be43},
		{[]string{"123456789"}, 0xcbf43926},
		{[]string{"12345", "", "6789"}, 0xcbf43926},
		{[]string{"12345"}, 0xcbf53a1c},
		{[]string{"6789"}, 0x9dbabf87},
	} {
		if sum := sums.CRC(x.parts...); sum != x.want {
			t.Errorf("CRC of %q: %x, want %x", x.parts, sum, x.want)
		}
	}
	for b := range 256 {
		s := string([]byte{byte(b)})
		if sum := sums.CRC(s); sum != slow(s) {
			t.Errorf("CRC of %x: %x, want %x", s, sum, slow(s))
		}
	}
	for _, s := range texts() {
		if sum := sums.CRC(s); sum != slow(s) || sum != crc32.ChecksumIEEE([]byte(s)) {
			t.Errorf("CRC of %x: %x, want %x", s, sum, slow(s))
		}
	}
}

func TestMore(t *testing.T) {
	if sum := sums.More(0xcbf53a1c, "6789"); sum != 0xcbf43926 {
		t.Errorf("%x", sum)
	}
	pick := rand.New(rand.NewSource(4))
	for _, s := range texts() {
		sum := pick.Uint32()
		if got, want := sums.More(sum, s), crc32.Update(sum, crc32.IEEETable, []byte(s)); got != want {
			t.Errorf("More(%x, %x): %x, want %x", sum, s, got, want)
		}
		at := pick.Intn(len(s) + 1)
		if got := sums.More(sums.CRC(s[:at]), s[at:]); got != sums.CRC(s) || got != sums.CRC(s[:at], s[at:]) {
			t.Errorf("%x, cut at %d: %x", s, at, got)
		}
	}
	for _, sum := range []uint32{0, 1, 0x80000000, math.MaxUint32} {
		if got := sums.More(sum, ""); got != sum {
			t.Errorf("More(%x, nothing): %x", sum, got)
		}
	}
}

func joined(t *testing.T, a, b uint32, n int) uint32 {
	t.Helper()
	sum, e := sums.Join(a, b, n)
	if e != api.OK {
		t.Errorf("Join(%x, %x, %d): %v", a, b, n, e)
	}
	return sum
}

func TestJoinOfCRCs(t *testing.T) {
	if sum := joined(t, 0xcbf53a1c, 0x9dbabf87, 4); sum != 0xcbf43926 {
		t.Errorf("%x", sum)
	}
	if sum := joined(t, 0, 0, 0); sum != 0 {
		t.Errorf("%x", sum)
	}
	for _, n := range []int{-1, -2, math.MinInt} {
		if sum, e := sums.Join(1, 2, n); sum != 0 || e != api.ErrArg {
			t.Errorf("Join(1, 2, %d): %x, %v", n, sum, e)
		}
	}
	all := texts()
	for i, x := range all {
		y := all[(7*i+3)%len(all)]
		if sum := joined(t, sums.CRC(x), sums.CRC(y), len(y)); sum != sums.CRC(x, y) {
			t.Errorf("Join over %x and %x: %x", x, y, sum)
		}
	}
}

// Of sums that no n bytes have, Join is worked out with n bytes 0.
func TestJoinOfAnySums(t *testing.T) {
	pick := rand.New(rand.NewSource(5))
	for n := range 300 {
		noughts := strings.Repeat("\x00", n)
		a, b := pick.Uint32(), pick.Uint32()
		want := sums.More(a, noughts) ^ b ^ sums.CRC(noughts)
		if sum := joined(t, a, b, n); sum != want {
			t.Errorf("Join(%x, %x, %d): %x, want %x", a, b, n, sum, want)
		}
	}
}

// Of lengths that nobody can write out, Join goes together with itself: n and m bytes are n + m.
func TestJoinOfHugeLengths(t *testing.T) {
	pick := rand.New(rand.NewSource(6))
	for _, n := range []int{1 << 20, 1 << 31, 1<<32 - 1, 1 << 40, math.MaxInt - 1, math.MaxInt} {
		a, b, c := pick.Uint32(), pick.Uint32(), pick.Uint32()
		m := pick.Intn(n)
		left := joined(t, joined(t, a, b, m), c, n-m)
		right := joined(t, a, joined(t, b, c, n-m), n)
		if left != right {
			t.Errorf("Join over %d and %d bytes: %x, %x", m, n-m, left, right)
		}
	}
	if sum := joined(t, 1, 0, 1<<20); sum != sums.More(1, strings.Repeat("\x00", 1<<20))^sums.CRC(strings.Repeat("\x00", 1<<20)) {
		t.Errorf("%x", sum)
	}
}

// Bytes that are turned within 32 bits next to one another have another CRC.
func TestCRCTellsBursts(t *testing.T) {
	pick := rand.New(rand.NewSource(7))
	for range 3000 {
		b := make([]byte, 5+pick.Intn(40))
		pick.Read(b)
		turned := append([]byte(nil), b...)
		at := pick.Intn(8*len(b) - 31)
		mask := pick.Uint32() >> pick.Intn(32)
		if mask == 0 {
			mask = 1
		}
		for i := range 32 {
			turned[(at+i)/8] ^= byte(mask>>i&1) << ((at + i) % 8)
		}
		if sums.CRC(string(b)) == sums.CRC(string(turned)) {
			t.Errorf("%x and %x have one CRC", b, turned)
		}
	}
}
