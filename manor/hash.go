package manor

import (
	"math/bits"

	"couchant/api"
)

// blockSize is how many bytes of a message are mixed in at a time.
const blockSize = 64

// roots are the constants k(0) to k(63).
var roots = [64]uint32{
	0x428a2f98, 0x71374491, 0xb5c0fbcf, 0xe9b5dba5, 0x3956c25b, 0x59f111f1, 0x923f82a4, 0xab1c5ed5,
	0xd807aa98, 0x12835b01, 0x243185be, 0x550c7dc3, 0x72be5d74, 0x80deb1fe, 0x9bdc06a7, 0xc19bf174,
	0xe49b69c1, 0xefbe4786, 0x0fc19dc6, 0x240ca1cc, 0x2de92c6f, 0x4a7484aa, 0x5cb0a9dc, 0x76f988da,
	0x983e5152, 0xa831c66d, 0xb00327c8, 0xbf597fc7, 0xc6e00bf3, 0xd5a79147, 0x06ca6351, 0x14292967,
	0x27b70a85, 0x2e1b2138, 0x4d2c6dfc, 0x53380d13, 0x650a7354, 0x766a0abb, 0x81c2c92e, 0x92722c85,
	0xa2bfe8a1, 0xa81a664b, 0xc24b8b70, 0xc76c51a3, 0xd192e819, 0xd6990624, 0xf40e3585, 0x106aa070,
	0x19a4c116, 0x1e376c08, 0x2748774c, 0x34b0bcb5, 0x391c0cb3, 0x4ed8aa4a, 0x5b9cca4f, 0x682e6ff3,
	0x748f82ee, 0x78a5636f, 0x84c87814, 0x8cc70208, 0x90befffa, 0xa4506ceb, 0xbef9a3f7, 0xc67178f2,
}

// Sum returns the digest SHA-256 of some bytes.
func Sum(b []byte) api.Hash {
	state := [8]uint32{0x6a09e667, 0xbb67ae85, 0x3c6ef372, 0xa54ff53a, 0x510e527f, 0x9b05688c, 0x1f83d9ab, 0x5be0cd19}
	whole := len(b) / blockSize * blockSize
	mixAll(&state, b[:whole])
	mixAll(&state, padded(b[whole:], len(b)))
	var h api.Hash
	for i, word := range state {
		putWord(h[4*i:], word)
	}
	return h
}

// padded returns the rest of a message of so many bytes with what has to stand behind it.
func padded(rest []byte, length int) []byte {
	const lengthSize = 8
	l := append([]byte(nil), rest...)
	l = append(l, 128)
	for len(l)%blockSize != blockSize-lengthSize {
		l = append(l, 0)
	}
	bitLength := uint64(length) * 8
	for shift := 56; shift >= 0; shift -= 8 {
		l = append(l, byte(bitLength>>shift))
	}
	return l
}

// putWord writes a word, the highest byte first.
func putWord(b []byte, word uint32) {
	for i := range 4 {
		b[i] = byte(word >> (24 - 8*i))
	}
}

// wordAt returns the word with an index, whose highest byte comes first.
func wordAt(b []byte, index int) uint32 {
	word := uint32(0)
	for _, x := range b[4*index : 4*index+4] {
		word = word<<8 | uint32(x)
	}
	return word
}

// mixAll mixes whole blocks into the state.
func mixAll(state *[8]uint32, b []byte) {
	for ; len(b) > 0; b = b[blockSize:] {
		words := schedule(b)
		mix(state, &words)
	}
}

// schedule returns the words w(0) to w(63) of a block.
func schedule(b []byte) [64]uint32 {
	var w [64]uint32
	for i := range 16 {
		w[i] = wordAt(b, i)
	}
	for i := 16; i < len(w); i++ {
		w[i] = small(w[i-2], 17, 19, 10) + w[i-7] + small(w[i-15], 7, 18, 3) + w[i-16]
	}
	return w
}

// small is a word rotated right by two numbers and shifted right by a third one.
func small(x uint32, one, two, shift int) uint32 {
	return bits.RotateLeft32(x, -one) ^ bits.RotateLeft32(x, -two) ^ x>>shift
}

// great is a word rotated right by three numbers.
func great(x uint32, one, two, three int) uint32 {
	return bits.RotateLeft32(x, -one) ^ bits.RotateLeft32(x, -two) ^ bits.RotateLeft32(x, -three)
}

// mix mixes the words of a block into the state.
func mix(state *[8]uint32, w *[64]uint32) {
	x := *state
	for i, word := range w {
		a, b, c, e, f, g := x[0], x[1], x[2], x[4], x[5], x[6]
		t := x[7] + great(e, 6, 11, 25) + (e&f ^ ^e&g) + roots[i] + word
		u := great(a, 2, 13, 22) + (a&b ^ a&c ^ b&c)
		x = [8]uint32{t + u, a, b, c, x[3] + t, e, f, g}
	}
	for i := range state {
		state[i] += x[i]
	}
}
