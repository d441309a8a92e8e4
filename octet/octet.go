// Package octet is layer 1: whole numbers as bytes, and the sum of a text: see shared/doc/01-octet.md.
package octet

// A number's bytes: groups of groupBits bits, those that another one follows with more added; groups at most.
const (
	groupBits = 7
	more      = 1 << groupBits
	groups    = 10
)

// Zig moves the sign to the lowest bit, so that numbers near 0 take few bytes whatever their sign.
func Zig(v int64) uint64 {
	return uint64(v)<<1 ^ uint64(v>>63)
}

// Zag is the way back from Zig.
func Zag(v uint64) int64 {
	return int64(v>>1) ^ -int64(v&1)
}

// sums holds what four bits that leave the register bring into it: half a byte at a time is far quicker than bit by bit, and 16 words are enough for it.
var sums = [16]uint32{
	0x00000000, 0x04c11db7, 0x09823b6e, 0x0d4326d9,
	0x130476dc, 0x17c56b6b, 0x1a864db2, 0x1e475005,
	0x2608edb8, 0x22c9f00f, 0x2f8ad6d6, 0x2b4bcb61,
	0x350c9b64, 0x31cd86d3, 0x3c8ea00a, 0x384fbdbd,
}

// Sum is the sum of bytes.
func Sum(b []byte) uint32 {
	s := ^uint32(0)
	for _, c := range b {
		s ^= uint32(c) << 24
		s = s<<4 ^ sums[s>>28]
		s = s<<4 ^ sums[s>>28]
	}
	return ^s
}

// Turn moves the bits left by n; what goes out comes in at the right.
func Turn(v uint32, n int) uint32 {
	left := uint(n) & 31 // right for an n below 0, too: the numbers of bits go round by 2^64, which 32 divides
	return v<<left | v>>(32-left)
}

// Narrow is v by its lowest n bits, signed, and whether that is v.
func Narrow(v int64, n int) (int64, bool) {
	if n < 1 || n > 64 {
		return 0, false
	}
	over := uint(64 - n)
	low := v << over >> over
	return low, low == v
}
