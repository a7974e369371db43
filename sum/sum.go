// Package sum: sums of texts, by which they are known.
package sum

import (
	"math/bits"
	"strings"

	"saltern/api"
)

const (
	blockSize = 64 // bytes that are mixed in at a time
	numSize   = 8  // bytes of a number
	sumSize   = 32 // bytes of a sum
	digits    = "0123456789abcdef"
)

// rounds are the numbers of FIPS 180-4, 4.2.2, one a round.
var rounds = [64]uint32{
	0x428a2f98, 0x71374491, 0xb5c0fbcf, 0xe9b5dba5, 0x3956c25b, 0x59f111f1, 0x923f82a4, 0xab1c5ed5,
	0xd807aa98, 0x12835b01, 0x243185be, 0x550c7dc3, 0x72be5d74, 0x80deb1fe, 0x9bdc06a7, 0xc19bf174,
	0xe49b69c1, 0xefbe4786, 0x0fc19dc6, 0x240ca1cc, 0x2de92c6f, 0x4a7484aa, 0x5cb0a9dc, 0x76f988da,
	0x983e5152, 0xa831c66d, 0xb00327c8, 0xbf597fc7, 0xc6e00bf3, 0xd5a79147, 0x06ca6351, 0x14292967,
	0x27b70a85, 0x2e1b2138, 0x4d2c6dfc, 0x53380d13, 0x650a7354, 0x766a0abb, 0x81c2c92e, 0x92722c85,
	0xa2bfe8a1, 0xa81a664b, 0xc24b8b70, 0xc76c51a3, 0xd192e819, 0xd6990624, 0xf40e3585, 0x106aa070,
	0x19a4c116, 0x1e376c08, 0x2748774c, 0x34b0bcb5, 0x391c0cb3, 0x4ed8aa4a, 0x5b9cca4f, 0x682e6ff3,
	0x748f82ee, 0x78a5636f, 0x84c87814, 0x8cc70208, 0x90befffa, 0xa4506ceb, 0xbef9a3f7, 0xc67178f2,
}

// Sum is a text's SHA-256: 32 bytes.
func Sum(s string) (_ string) {
	state := [8]uint32{
		0x6a09e667, 0xbb67ae85, 0x3c6ef372, 0xa54ff53a,
		0x510e527f, 0x9b05688c, 0x1f83d9ab, 0x5be0cd19,
	}
	// Only what stands behind the last whole block is copied: a text may be long.
	whole := len(s) - len(s)%blockSize
	state = mixAll(state, s[:whole])
	state = mixAll(state, s[whole:]+ending(len(s)))
	return join(state)
}

// Hex writes bytes as hexadecimal digits.
func Hex(s string) (_ string) {
	out := make([]byte, 0, 2*len(s))
	for i := range len(s) {
		out = append(out, digits[s[i]>>4], digits[s[i]&15])
	}
	return string(out)
}

// Num is a number as eight bytes, the greatest first.
func Num(n int) (_ string) {
	return eight(uint64(n))
}

// Mark is what texts are known by, of a kind: the first 16 bytes of the sum of the kind, and of each how many bytes it has, and they.
func Mark(kind byte, parts ...string) (_ string) {
	var all strings.Builder
	all.WriteByte(kind)
	for _, part := range parts {
		all.WriteString(Num(len(part)))
		all.WriteString(part)
	}
	return Sum(all.String())[:api.MarkSize]
}

// eight takes all 64 bits, so that neither a sign nor a length in bits is cut.
func eight(n uint64) string {
	var out [numSize]byte
	for i := range numSize {
		out[numSize-1-i] = byte(n >> (8 * i))
	}
	return string(out[:])
}

// ending is what FIPS 180-4, 5.1.1, lays behind a text of so many bytes, so that whole blocks are there.
func ending(size int) string {
	zeros := blockSize - 1 - (size+numSize)%blockSize
	return "\x80" + strings.Repeat("\x00", zeros) + eight(8*uint64(size))
}

// mixAll mixes in a text of whole blocks.
func mixAll(state [8]uint32, s string) [8]uint32 {
	for i := range len(s) / blockSize {
		state = mix(state, s[i*blockSize:(i+1)*blockSize])
	}
	return state
}

// mix mixes in a block: FIPS 180-4, 6.2.2.
func mix(state [8]uint32, block string) [8]uint32 {
	words := spread(block)
	a, b, c, d := state[0], state[1], state[2], state[3]
	e, f, g, h := state[4], state[5], state[6], state[7]
	for i := range len(rounds) {
		choice := e&f ^ ^e&g
		most := a&b ^ a&c ^ b&c
		one := h + turned(e, 6, 11, 25) + choice + rounds[i] + words[i]
		two := turned(a, 2, 13, 22) + most
		a, b, c, d, e, f, g, h = one+two, a, b, c, d+one, e, f, g
	}
	return [8]uint32{
		state[0] + a, state[1] + b, state[2] + c, state[3] + d,
		state[4] + e, state[5] + f, state[6] + g, state[7] + h,
	}
}

// spread makes a block's sixteen words a word for each round.
func spread(block string) [64]uint32 {
	var words [64]uint32
	for i := range 16 {
		words[i] = word(block[4*i : 4*i+4])
	}
	for i := 16; i < len(words); i++ {
		late, early := words[i-2], words[i-15]
		words[i] = shifted(late, 17, 19, 10) + words[i-7] + shifted(early, 7, 18, 3) + words[i-16]
	}
	return words
}

// word reads four bytes, the greatest first.
func word(s string) uint32 {
	return uint32(s[0])<<24 | uint32(s[1])<<16 | uint32(s[2])<<8 | uint32(s[3])
}

// turned is x turned right in three ways, taken together.
func turned(x uint32, i, j, k int) uint32 {
	return bits.RotateLeft32(x, -i) ^ bits.RotateLeft32(x, -j) ^ bits.RotateLeft32(x, -k)
}

// shifted is x turned right in two ways and shifted in a third, taken together.
func shifted(x uint32, i, j, k int) uint32 {
	return bits.RotateLeft32(x, -i) ^ bits.RotateLeft32(x, -j) ^ x>>k
}

// join writes words one behind the other, the greatest byte of each first.
func join(words [8]uint32) string {
	out := make([]byte, 0, sumSize)
	for _, w := range words {
		out = append(out, byte(w>>24), byte(w>>16), byte(w>>8), byte(w))
	}
	return string(out)
}
