// Package sums is layer 1: check sums and digests of bytes, CRC-32 and SHA-1.
package sums

import (
	"iter"
	"math/bits"
	"strconv"

	"tabor/api"
)

// block is how many bytes SHA-1 takes at a time.
const block = 64

// halves holds what four steps of CRC-32 make of each lowest half byte: with all eight
// steps of a byte the list would be too long to stand in the program.
var halves = [16]uint32{
	0x00000000, 0x1db71064, 0x3b6e20c8, 0x26d930ac,
	0x76dc4190, 0x6b6b51f4, 0x4db26158, 0x5005713c,
	0xedb88320, 0xf00f9344, 0xd6d6a3e8, 0xcb61b38c,
	0x9b64c2b0, 0x86d3d2d4, 0xa00ae278, 0xbdbdf21c,
}

// rule is how the rounds below until mix three numbers of a state, and what they add.
type rule struct {
	until int
	add   uint32
	mix   func(b, c, d uint32) uint32
}

// Crc tells the CRC-32 of bytes.
func Crc(b []byte) uint32 { return Update(0, b) }

// Update tells the sum that goes on from a sum.
func Update(sum uint32, b []byte) uint32 {
	now := ^sum
	halve := func() { now = now>>4 ^ halves[now&15] }
	for _, x := range b {
		now ^= uint32(x)
		halve()
		halve()
	}
	return ^now
}

// Bytes tells a number as four bytes, the lowest ahead.
func Bytes(n uint32) []byte {
	return []byte{byte(n), byte(n >> 8), byte(n >> 16), byte(n >> 24)}
}

// Of tells the number of four bytes.
func Of(b []byte) (uint32, api.Errno) {
	if len(b) != 4 {
		return 0, api.ErrArg
	}
	return uint32(b[0]) | uint32(b[1])<<8 | uint32(b[2])<<16 | uint32(b[3])<<24, api.OK
}

// Start tells SHA-1's first state.
func Start() [5]uint32 {
	return [5]uint32{0x67452301, 0xefcdab89, 0x98badcfe, 0x10325476, 0xc3d2e1f0}
}

// Pad tells the padded bytes.
func Pad(b []byte) []byte {
	noughts := (2*block - 9 - len(b)%block) % block
	out := make([]byte, len(b)+1+noughts+8)
	copy(out, b)
	out[len(b)] = 128
	n := uint64(len(b)) * 8
	for i := range 8 {
		out[len(out)-1-i] = byte(n >> (8 * i))
	}
	return out
}

// rules makes the four rules, by rising rounds.
func rules() []rule {
	odd := func(b, c, d uint32) uint32 { return b ^ c ^ d }
	return []rule{
		{20, 0x5a827999, func(b, c, d uint32) uint32 { return b&c | ^b&d }},
		{40, 0x6ed9eba1, odd},
		{60, 0x8f1bbcdc, func(b, c, d uint32) uint32 { return b&c | b&d | c&d }},
		{80, 0xca62c1d6, odd},
	}
}

// spread makes a block's eighty numbers.
func spread(b []byte) [80]uint32 {
	var w [80]uint32
	for t := range 16 {
		w[t] = uint32(b[4*t])<<24 | uint32(b[4*t+1])<<16 | uint32(b[4*t+2])<<8 | uint32(b[4*t+3])
	}
	for t := 16; t < len(w); t++ {
		w[t] = bits.RotateLeft32(w[t-3]^w[t-8]^w[t-14]^w[t-16], 1)
	}
	return w
}

// Block tells the block's state.
func Block(state [5]uint32, b []byte) ([5]uint32, api.Errno) {
	if len(b) != block {
		return [5]uint32{}, api.ErrArg
	}
	w := spread(b)
	s := state
	t := 0
	for _, r := range rules() {
		for ; t < r.until; t++ {
			a := bits.RotateLeft32(s[0], 5) + r.mix(s[1], s[2], s[3]) + s[4] + r.add + w[t]
			s = [5]uint32{a, s[0], bits.RotateLeft32(s[1], 30), s[2], s[3]}
		}
	}
	for i := range s {
		s[i] += state[i]
	}
	return s, api.OK
}

// Text tells a state as 40 digits.
func Text(state [5]uint32) string {
	var out []byte
	for _, n := range state {
		digits := strconv.FormatUint(uint64(n), 16)
		for range 8 - len(digits) {
			out = append(out, '0')
		}
		out = append(out, digits...)
	}
	return string(out)
}

// blocks goes over the blocks of padded bytes.
func blocks(b []byte) iter.Seq[[]byte] {
	return func(yield func([]byte) bool) {
		for ; len(b) >= block; b = b[block:] {
			if !yield(b[:block]) {
				return
			}
		}
	}
}

// Digest tells the digest of bytes.
func Digest(b []byte) string {
	state := Start()
	for piece := range blocks(Pad(b)) {
		state, _ = Block(state, piece)
	}
	return Text(state)
}

// IsDigest tells whether a text has the form of a digest.
func IsDigest(s string) bool {
	if len(s) != 40 {
		return false
	}
	for i := range len(s) {
		if !(s[i] >= '0' && s[i] <= '9' || s[i] >= 'a' && s[i] <= 'f') {
			return false
		}
	}
	return true
}
