// Package sha is layer 1: see shared/doc/01-sha.md.
package sha

import (
	"math/bits"

	"redactor/api"
)

const (
	blockSize  = 64
	lengthSize = 8
)

// startWords are the first 32 bits of the fractions of the square roots of the first eight primes.
var startWords = [8]uint32{
	0x6a09e667, 0xbb67ae85, 0x3c6ef372, 0xa54ff53a,
	0x510e527f, 0x9b05688c, 0x1f83d9ab, 0x5be0cd19,
}

// roundWords are the first 32 bits of the fractions of the cube roots of the first 64 primes.
var roundWords = [64]uint32{
	0x428a2f98, 0x71374491, 0xb5c0fbcf, 0xe9b5dba5,
	0x3956c25b, 0x59f111f1, 0x923f82a4, 0xab1c5ed5,
	0xd807aa98, 0x12835b01, 0x243185be, 0x550c7dc3,
	0x72be5d74, 0x80deb1fe, 0x9bdc06a7, 0xc19bf174,
	0xe49b69c1, 0xefbe4786, 0x0fc19dc6, 0x240ca1cc,
	0x2de92c6f, 0x4a7484aa, 0x5cb0a9dc, 0x76f988da,
	0x983e5152, 0xa831c66d, 0xb00327c8, 0xbf597fc7,
	0xc6e00bf3, 0xd5a79147, 0x06ca6351, 0x14292967,
	0x27b70a85, 0x2e1b2138, 0x4d2c6dfc, 0x53380d13,
	0x650a7354, 0x766a0abb, 0x81c2c92e, 0x92722c85,
	0xa2bfe8a1, 0xa81a664b, 0xc24b8b70, 0xc76c51a3,
	0xd192e819, 0xd6990624, 0xf40e3585, 0x106aa070,
	0x19a4c116, 0x1e376c08, 0x2748774c, 0x34b0bcb5,
	0x391c0cb3, 0x4ed8aa4a, 0x5b9cca4f, 0x682e6ff3,
	0x748f82ee, 0x78a5636f, 0x84c87814, 0x8cc70208,
	0x90befffa, 0xa4506ceb, 0xbef9a3f7, 0xc67178f2,
}

// Hash holds arrays, not slices, so that a copied Hash goes on by itself.
type Hash struct {
	words  [8]uint32
	block  [blockSize]byte
	length int
}

// Sum is the hash of b.
func Sum(b []byte) api.Hash {
	return Of(b)
}

// Of is the hash of all parts, one behind the other.
func Of(parts ...[]byte) api.Hash {
	var h Hash
	for _, part := range parts {
		h.Write(part)
	}
	return h.Sum()
}

// New answers a Hash that has taken nothing.
func New() *Hash {
	return &Hash{}
}

// Write takes b behind what was taken.
func (h *Hash) Write(b []byte) {
	if h == nil {
		return
	}
	// The zero Hash has no words yet, and must be as good as a new one.
	if h.length == 0 {
		h.words = startWords
	}
	for len(b) > 0 {
		n := copy(h.block[h.length%blockSize:], b)
		b = b[n:]
		h.length += n
		if h.length%blockSize == 0 {
			h.words = turn(h.words, h.block)
			// Bytes that were turned in are needed no more, so they are not kept.
			h.block = [blockSize]byte{}
		}
	}
}

// Sum is the hash of all that was taken.
func (h *Hash) Sum() api.Hash {
	if h == nil {
		return api.Hash{}
	}
	// The padding goes to a copy, so that more can be taken behind a Sum.
	last := *h
	last.Write(padding(h.length))
	return bytesOf(last.words)
}

// Len is how many bytes were taken.
func (h *Hash) Len() int {
	if h == nil {
		return 0
	}
	return h.length
}

// Reset forgets all that was taken.
func (h *Hash) Reset() {
	if h == nil {
		return
	}
	*h = Hash{}
}

// padding is what stands behind length bytes, up to the end of a block.
func padding(length int) []byte {
	filled := (length + 1 + lengthSize) % blockSize
	noughts := (blockSize - filled) % blockSize
	pad := make([]byte, 1+noughts+lengthSize)
	pad[0] = 128
	count := uint64(length) * 8
	for i := range lengthSize {
		pad[len(pad)-1-i] = byte(count >> (8 * i))
	}
	return pad
}

// turn is what the words become by one block.
func turn(words [8]uint32, block [blockSize]byte) [8]uint32 {
	schedule := scheduleOf(block)
	a, b, c, d := words[0], words[1], words[2], words[3]
	e, f, g, h := words[4], words[5], words[6], words[7]
	for i := range roundWords {
		mixE := bits.RotateLeft32(e, -6) ^ bits.RotateLeft32(e, -11) ^ bits.RotateLeft32(e, -25)
		choice := (e & f) ^ (^e & g)
		first := h + mixE + choice + roundWords[i] + schedule[i]
		mixA := bits.RotateLeft32(a, -2) ^ bits.RotateLeft32(a, -13) ^ bits.RotateLeft32(a, -22)
		majority := (a & b) ^ (a & c) ^ (b & c)
		second := mixA + majority
		h, g, f, e = g, f, e, d+first
		d, c, b, a = c, b, a, first+second
	}
	return [8]uint32{
		words[0] + a, words[1] + b, words[2] + c, words[3] + d,
		words[4] + e, words[5] + f, words[6] + g, words[7] + h,
	}
}

// scheduleOf spreads a block over the words of the 64 rounds.
func scheduleOf(block [blockSize]byte) [64]uint32 {
	var w [64]uint32
	for i := range 16 {
		w[i] = uint32(block[4*i])<<24 | uint32(block[4*i+1])<<16 | uint32(block[4*i+2])<<8 | uint32(block[4*i+3])
	}
	for i := 16; i < len(w); i++ {
		near, far := w[i-2], w[i-15]
		mixNear := bits.RotateLeft32(near, -17) ^ bits.RotateLeft32(near, -19) ^ near>>10
		mixFar := bits.RotateLeft32(far, -7) ^ bits.RotateLeft32(far, -18) ^ far>>3
		w[i] = mixNear + w[i-7] + mixFar + w[i-16]
	}
	return w
}

func bytesOf(words [8]uint32) api.Hash {
	var out api.Hash
	for i, word := range words {
		out[4*i] = byte(word >> 24)
		out[4*i+1] = byte(word >> 16)
		out[4*i+2] = byte(word >> 8)
		out[4*i+3] = byte(word)
	}
	return out
}
