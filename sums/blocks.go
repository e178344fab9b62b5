package sums

const (
	blockSize  = 64
	lengthSize = 8 // bytes that tell a length, the last ones of all
	lengthAt   = blockSize - lengthSize
	closing    = 128 // the byte behind the last one
)

// block is so many bytes as are taken in at a time.
type block [blockSize]byte

// finish takes in what is left, b, and what closes all; so many bytes as ahead were taken in before.
func finish(n numbers, ahead int, b []byte) [32]byte {
	length := 8 * (uint64(ahead) + uint64(len(b)))
	var next block
	for ; len(b) >= blockSize; b = b[blockSize:] {
		copy(next[:], b)
		n = taken(n, next)
	}
	var last block
	left := copy(last[:], b)
	last[left] = closing
	if left >= lengthAt {
		// The length has no room behind these: it goes into a block of its own.
		n, last = taken(n, last), block{}
	}
	return told(taken(n, withLength(last, length)))
}

// withLength is a block, a length as its last bytes, the highest first.
func withLength(b block, length uint64) block {
	for i := range lengthSize {
		b[blockSize-1-i] = byte(length >> (8 * i))
	}
	return b
}

// told is eight numbers as bytes, the highest first.
func told(n numbers) [32]byte {
	var out [32]byte
	for i := range out {
		out[i] = byte(n[i/4] >> (24 - 8*(i%4)))
	}
	return out
}
