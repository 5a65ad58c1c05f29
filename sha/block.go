package sha

import (
	"math/bits"

	"casemate/octet"
)

// size is how many bytes a block has.
const size = 64

// squareRoots are the first 32 digits behind the point of the square roots of the first eight primes.
var squareRoots = [8]uint32{
	0x6a09e667, 0xbb67ae85, 0x3c6ef372, 0xa54ff53a, 0x510e527f, 0x9b05688c, 0x1f83d9ab, 0x5be0cd19,
}

// cubeRoots are those of the cube roots of the first sixty-four primes.
var cubeRoots = [64]uint32{
	0x428a2f98, 0x71374491, 0xb5c0fbcf, 0xe9b5dba5, 0x3956c25b, 0x59f111f1, 0x923f82a4, 0xab1c5ed5,
	0xd807aa98, 0x12835b01, 0x243185be, 0x550c7dc3, 0x72be5d74, 0x80deb1fe, 0x9bdc06a7, 0xc19bf174,
	0xe49b69c1, 0xefbe4786, 0x0fc19dc6, 0x240ca1cc, 0x2de92c6f, 0x4a7484aa, 0x5cb0a9dc, 0x76f988da,
	0x983e5152, 0xa831c66d, 0xb00327c8, 0xbf597fc7, 0xc6e00bf3, 0xd5a79147, 0x06ca6351, 0x14292967,
	0x27b70a85, 0x2e1b2138, 0x4d2c6dfc, 0x53380d13, 0x650a7354, 0x766a0abb, 0x81c2c92e, 0x92722c85,
	0xa2bfe8a1, 0xa81a664b, 0xc24b8b70, 0xc76c51a3, 0xd192e819, 0xd6990624, 0xf40e3585, 0x106aa070,
	0x19a4c116, 0x1e376c08, 0x2748774c, 0x34b0bcb5, 0x391c0cb3, 0x4ed8aa4a, 0x5b9cca4f, 0x682e6ff3,
	0x748f82ee, 0x78a5636f, 0x84c87814, 0x8cc70208, 0x90befffa, 0xa4506ceb, 0xbef9a3f7, 0xc67178f2,
}

// turned is v moved down by n, the digits that leave coming in at the top.
func turned(v uint32, n int) uint32 {
	return bits.RotateLeft32(v, -n)
}

// words are a block's sixteen numbers, and the forty-eight that follow from them.
func words(block [size]byte) [64]uint32 {
	var w [64]uint32
	for i := range 16 {
		w[i], _ = octet.Get[uint32](block[:], 4*i)
	}
	for i := 16; i < len(w); i++ {
		a, b := w[i-15], w[i-2]
		s0 := turned(a, 7) ^ turned(a, 18) ^ a>>3
		s1 := turned(b, 17) ^ turned(b, 19) ^ b>>10
		w[i] = w[i-16] + s0 + w[i-7] + s1
	}
	return w
}

// take is what a block makes of the eight numbers.
func take(was [8]uint32, block [size]byte) [8]uint32 {
	a, b, c, d, e, f, g, h := was[0], was[1], was[2], was[3], was[4], was[5], was[6], was[7]
	for i, w := range words(block) {
		s1 := turned(e, 6) ^ turned(e, 11) ^ turned(e, 25)
		t1 := h + s1 + (e&f ^ ^e&g) + cubeRoots[i] + w
		s0 := turned(a, 2) ^ turned(a, 13) ^ turned(a, 22)
		t2 := s0 + (a&b ^ a&c ^ b&c)
		h, g, f, e, d, c, b, a = g, f, e, d+t1, c, b, a, t1+t2
	}
	is := [8]uint32{a, b, c, d, e, f, g, h}
	for i := range is {
		is[i] += was[i]
	}
	return is
}
