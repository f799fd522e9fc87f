package sums

import (
	"math/bits"

	"heartwood/api"
)

const (
	blockSize = 64
	rounds    = 64
	lengthAt  = blockSize - 8 // in the last block, where the number of bits stands
)

// Hash takes bytes piece by piece.
type Hash struct {
	made  bool // tells it from one that New did not make
	words [8]uint32
	rest  [blockSize]byte // what has not filled a block yet
	size  int
}

// New makes a Hash to which nothing was written.
func New() *Hash {
	return &Hash{made: true, words: [8]uint32{
		0x6a09e667, 0xbb67ae85, 0x3c6ef372, 0xa54ff53a, 0x510e527f, 0x9b05688c, 0x1f83d9ab, 0x5be0cd19,
	}}
}

func (h *Hash) there() bool { return h != nil && h.made }

// Write lays the parts behind what was written.
func (h *Hash) Write(parts ...string) {
	if !h.there() {
		return
	}
	for _, part := range parts {
		bytes := append(h.waiting(), part...)
		h.size += len(part)
		copy(h.rest[:], mixBlocks(&h.words, bytes))
	}
}

// waiting answers the bytes that have not filled a block yet, in memory of their own.
func (h *Hash) waiting() []byte {
	return append([]byte(nil), h.rest[:h.size%blockSize]...)
}

// Len tells how many bytes were written.
func (h *Hash) Len() int {
	if !h.there() {
		return 0
	}
	return h.size
}

// Sum answers the SHA-256 of what was written so far.
func (h *Hash) Sum() api.Digest {
	if !h.there() {
		return api.Digest{}
	}
	words := h.words // more may be written, so the ending is mixed into others
	mixBlocks(&words, h.ending())
	var d api.Digest
	for i, word := range words {
		copy(d[4*i:], fourBytes(word))
	}
	return d
}

// ending answers the last block or two: what waits, a bit 1, bits 0, the number of bits.
func (h *Hash) ending() []byte {
	bytes := append(h.waiting(), 128)
	for len(bytes)%blockSize != lengthAt {
		bytes = append(bytes, 0)
	}
	length := uint64(h.size) * 8
	bytes = append(bytes, fourBytes(uint32(length>>32))...)
	return append(bytes, fourBytes(uint32(length))...)
}

// Clone answers a Hash of its own to which the same was written.
func (h *Hash) Clone() *Hash {
	if !h.there() {
		return nil
	}
	c := *h
	return &c
}

// Sum answers the SHA-256 of s.
func Sum(s string) api.Digest {
	h := New()
	h.Write(s)
	return h.Sum()
}

// mixBlocks mixes each whole block of the bytes into the words, and answers what is left behind them.
func mixBlocks(words *[8]uint32, bytes []byte) []byte {
	constants := roundConstants()
	for len(bytes) >= blockSize {
		mix(words, schedule([blockSize]byte(bytes[:blockSize])), &constants)
		bytes = bytes[blockSize:]
	}
	return bytes
}

// schedule answers the words that a block gives, one for each round.
func schedule(block [blockSize]byte) [rounds]uint32 {
	var w [rounds]uint32
	for i, b := range block {
		w[i/4] <<= 8
		w[i/4] |= uint32(b)
	}
	for i := 16; i < rounds; i++ {
		x, y := w[i-15], w[i-2]
		w[i] = w[i-16] + w[i-7]
		w[i] += turn(x, 7) ^ turn(x, 18) ^ x>>3
		w[i] += turn(y, 17) ^ turn(y, 19) ^ y>>10
	}
	return w
}

// mix brings the words through the rounds of a block.
func mix(words *[8]uint32, w [rounds]uint32, constants *[rounds]uint32) {
	a, b, c, d, e, f, g, h := words[0], words[1], words[2], words[3], words[4], words[5], words[6], words[7]
	for i, constant := range constants {
		h += turn(e, 6) ^ turn(e, 11) ^ turn(e, 25)
		h += e&f ^ ^e&g
		h += constant + w[i]
		d += h
		h += turn(a, 2) ^ turn(a, 13) ^ turn(a, 22)
		h += a&b ^ a&c ^ b&c
		a, b, c, d, e, f, g, h = h, a, b, c, d, e, f, g
	}
	words[0] += a
	words[1] += b
	words[2] += c
	words[3] += d
	words[4] += e
	words[5] += f
	words[6] += g
	words[7] += h
}

// turn turns a word towards its low end.
func turn(word uint32, places int) uint32 { return bits.RotateLeft32(word, -places) }

// fourBytes answers a word's bytes, the highest first.
func fourBytes(word uint32) []byte {
	return []byte{byte(word >> 24), byte(word >> 16), byte(word >> 8), byte(word)}
}

// roundConstants makes FIPS 180-4's K: of the first 64 primes' cube roots the first 32 bits behind the point.
func roundConstants() [rounds]uint32 {
	return [rounds]uint32{
		0x428a2f98, 0x71374491, 0xb5c0fbcf, 0xe9b5dba5, 0x3956c25b, 0x59f111f1, 0x923f82a4, 0xab1c5ed5,
		0xd807aa98, 0x12835b01, 0x243185be, 0x550c7dc3, 0x72be5d74, 0x80deb1fe, 0x9bdc06a7, 0xc19bf174,
		0xe49b69c1, 0xefbe4786, 0x0fc19dc6, 0x240ca1cc, 0x2de92c6f, 0x4a7484aa, 0x5cb0a9dc, 0x76f988da,
		0x983e5152, 0xa831c66d, 0xb00327c8, 0xbf597fc7, 0xc6e00bf3, 0xd5a79147, 0x06ca6351, 0x14292967,
		0x27b70a85, 0x2e1b2138, 0x4d2c6dfc, 0x53380d13, 0x650a7354, 0x766a0abb, 0x81c2c92e, 0x92722c85,
		0xa2bfe8a1, 0xa81a664b, 0xc24b8b70, 0xc76c51a3, 0xd192e819, 0xd6990624, 0xf40e3585, 0x106aa070,
		0x19a4c116, 0x1e376c08, 0x2748774c, 0x34b0bcb5, 0x391c0cb3, 0x4ed8aa4a, 0x5b9cca4f, 0x682e6ff3,
		0x748f82ee, 0x78a5636f, 0x84c87814, 0x8cc70208, 0x90befffa, 0xa4506ceb, 0xbef9a3f7, 0xc67178f2,
	}
}
