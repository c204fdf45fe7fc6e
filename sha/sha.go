// Package sha is layer 1, the sum SHA-1 of a text, whole or in pieces: see shared/doc/01-sha.md.
package sha

import (
	"math/bits"
	"strings"
)

const (
	blockSize  = 64
	lengthSize = 8
)

// start is the words H ahead of the first block.
var start = [5]uint32{0x67452301, 0xefcdab89, 0x98badcfe, 0x10325476, 0xc3d2e1f0}

// Sum is the sum of s.
func Sum(s string) [20]byte {
	var h Hash
	h.Write(s)
	return h.Sum()
}

// Hash is the sum of what was written to it; its zero value is one of no text yet.
type Hash struct {
	words [5]uint32       // H behind the last whole block; noughts until something is written
	begun [blockSize]byte // the block that is not whole yet
	n     int
}

// New is a hash of no text yet.
func New() *Hash { return &Hash{} }

// Write puts s behind what was written.
func (h *Hash) Write(s string) {
	if h == nil {
		return
	}
	if h.n == 0 { // not in New, as a hash need not come from there
		h.words = start
	}
	for len(s) > 0 {
		at := h.n % blockSize
		taken := copy(h.begun[at:], s)
		h.n += taken
		s = s[taken:]
		if at+taken == blockSize {
			h.words = addBlock(h.words, h.begun)
		}
	}
}

// Sum is the sum of all that was written.
func (h *Hash) Sum() [20]byte {
	if h == nil {
		return Sum("")
	}
	last := *h // padded in its place, so that h can be written to further
	last.Write(padding(h.n))
	return wordBytes(last.words)
}

// Len is how many bytes were written.
func (h *Hash) Len() int {
	if h == nil {
		return 0
	}
	return h.n
}

// padding is what stands behind a text of n bytes in its blocks.
func padding(n int) string {
	noughts := (2*blockSize - lengthSize - 1 - n%blockSize) % blockSize
	var length [lengthSize]byte
	for i := range lengthSize {
		length[i] = byte(uint64(n) * 8 >> (56 - 8*i))
	}
	return "\x80" + strings.Repeat("\x00", noughts) + string(length[:])
}

// addBlock is the words H behind a block, words those ahead of it.
func addBlock(words [5]uint32, block [blockSize]byte) [5]uint32 {
	a, b, c, d, e := words[0], words[1], words[2], words[3], words[4]
	for t, w := range schedule(block) {
		f, k := mix(t, b, c, d)
		a, b, c, d, e = bits.RotateLeft32(a, 5)+f+e+k+w, a, bits.RotateLeft32(b, 30), c, d
	}
	return [5]uint32{words[0] + a, words[1] + b, words[2] + c, words[3] + d, words[4] + e}
}

// schedule is the words W of a block.
func schedule(block [blockSize]byte) [80]uint32 {
	var w [80]uint32
	for i, b := range block {
		w[i/4] = w[i/4]<<8 | uint32(b)
	}
	for t := 16; t < len(w); t++ {
		w[t] = bits.RotateLeft32(w[t-3]^w[t-8]^w[t-14]^w[t-16], 1)
	}
	return w
}

// mix is f and K for t.
func mix(t int, b, c, d uint32) (f, k uint32) {
	switch {
	case t < 20:
		return (b & c) ^ (^b & d), 0x5a827999
	case t < 40:
		return b ^ c ^ d, 0x6ed9eba1
	case t < 60:
		return (b & c) ^ (b & d) ^ (c & d), 0x8f1bbcdc
	default:
		return b ^ c ^ d, 0xca62c1d6
	}
}

// wordBytes is the words as bytes, of each the highest one first.
func wordBytes(words [5]uint32) [20]byte {
	var out [20]byte
	for i := range out {
		out[i] = byte(words[i/4] >> (24 - 8*(i%4)))
	}
	return out
}
