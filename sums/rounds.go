package sums

import "math/bits"

// numbers are the eight by which blocks are taken in.
type numbers [8]uint32

// squares are the first 32 bits behind the point of the square roots of the first 8 prime numbers.
var squares = numbers{
	0x6a09e667, 0xbb67ae85, 0x3c6ef372, 0xa54ff53a, 0x510e527f, 0x9b05688c, 0x1f83d9ab, 0x5be0cd19,
}

// cubes are those of the cube roots of the first 64.
var cubes = [rounds]uint32{
	0x428a2f98, 0x71374491, 0xb5c0fbcf, 0xe9b5dba5, 0x3956c25b, 0x59f111f1, 0x923f82a4, 0xab1c5ed5,
	0xd807aa98, 0x12835b01, 0x243185be, 0x550c7dc3, 0x72be5d74, 0x80deb1fe, 0x9bdc06a7, 0xc19bf174,
	0xe49b69c1, 0xefbe4786, 0x0fc19dc6, 0x240ca1cc, 0x2de92c6f, 0x4a7484aa, 0x5cb0a9dc, 0x76f988da,
	0x983e5152, 0xa831c66d, 0xb00327c8, 0xbf597fc7, 0xc6e00bf3, 0xd5a79147, 0x06ca6351, 0x14292967,
	0x27b70a85, 0x2e1b2138, 0x4d2c6dfc, 0x53380d13, 0x650a7354, 0x766a0abb, 0x81c2c92e, 0x92722c85,
	0xa2bfe8a1, 0xa81a664b, 0xc24b8b70, 0xc76c51a3, 0xd192e819, 0xd6990624, 0xf40e3585, 0x106aa070,
	0x19a4c116, 0x1e376c08, 0x2748774c, 0x34b0bcb5, 0x391c0cb3, 0x4ed8aa4a, 0x5b9cca4f, 0x682e6ff3,
	0x748f82ee, 0x78a5636f, 0x84c87814, 0x8cc70208, 0x90befffa, 0xa4506ceb, 0xbef9a3f7, 0xc67178f2,
}

// rounds is how many times the numbers are mixed for each block.
const rounds = 64

// taken is eight numbers after a block was taken in.
func taken(n numbers, bytes block) numbers {
	w := spread(bytes)
	a, b, c, d, e, f, g, h := n[0], n[1], n[2], n[3], n[4], n[5], n[6], n[7]
	for i := range rounds {
		t := h + against(turned(e, 6), turned(e, 11), turned(e, 25)) + (e&f | ^e&g) + cubes[i] + w[i]
		u := against(turned(a, 2), turned(a, 13), turned(a, 22)) + (a&b | a&c | b&c)
		a, b, c, d, e, f, g, h = t+u, a, b, c, d+t, e, f, g
	}
	for i, x := range (numbers{a, b, c, d, e, f, g, h}) {
		n[i] += x
	}
	return n
}

// spread is a block as numbers, and those that are worked out of these.
func spread(b block) [rounds]uint32 {
	var w [rounds]uint32
	for i := range blockSize / 4 {
		w[i] = uint32(b[4*i])<<24 | uint32(b[4*i+1])<<16 | uint32(b[4*i+2])<<8 | uint32(b[4*i+3])
	}
	for i := blockSize / 4; i < rounds; i++ {
		x, y := w[i-15], w[i-2]
		w[i] = w[i-16] + w[i-7] + against(turned(x, 7), turned(x, 18), x>>3) + against(turned(y, 17), turned(y, 19), y>>10)
	}
	return w
}

// turned is a number, its bits so many places further down; those that fall off come in at the top.
func turned(x uint32, places int) uint32 {
	return bits.RotateLeft32(x, -places)
}

// against takes all against each other, bit by bit.
func against(l ...uint32) uint32 {
	var sum uint32
	for _, x := range l {
		sum ^= x
	}
	return sum
}
