// Package nats is layer 1: great numbers from 0 on. See doc/01-nats.md.
package nats

import (
	"cmp"
	"iter"
	"slices"

	"assayer/api"
)

const (
	width   = 32           // bits of a part
	topPart = 1<<width - 1 // the greatest part
	inWord  = 64 / width   // parts of a number of 64 bits
)

// Check: may a number be? (P1.1)
func Check(a api.Nat) bool { return len(a) == 0 || a[len(a)-1] != 0 }

// Of: a number of 64 bits; Back: that, if it has no more. (P1.2)
func Of(n uint64) api.Nat { return trim(api.Nat{uint32(n), uint32(n >> width)}) }

// Back: likewise.
func Back(a api.Nat) (uint64, api.Errno) {
	switch {
	case !Check(a):
		return 0, api.ErrArg
	case len(a) > inWord:
		return 0, api.ErrLimit
	}
	return word(a), api.OK
}

// Cmp: below 0, 0, above 0. (P1.3)
func Cmp(a, b api.Nat) int {
	a, b = orZero(a), orZero(b)
	if c := cmp.Compare(len(a), len(b)); c != 0 {
		return c
	}
	for i, p := range slices.Backward(a) {
		if p != b[i] {
			return cmp.Compare(p, b[i])
		}
	}
	return 0
}

// orZero is the number, or 0, if it may not be.
func orZero(a api.Nat) api.Nat {
	if !Check(a) {
		return nil
	}
	return a
}

// trim leaves out the noughts at the top. It keeps the memory: it is for numbers that were just made.
func trim(a api.Nat) api.Nat {
	n := len(a)
	for n > 0 && a[n-1] == 0 {
		n--
	}
	if n == 0 {
		return nil
	}
	return a[:n]
}

// word is a number of at most 64 bits.
func word(a api.Nat) uint64 {
	n := uint64(0)
	for _, p := range slices.Backward(a) {
		n = n<<width | uint64(p)
	}
	return n
}

// part is the i-th part, 0 above the last one.
func part(a api.Nat, i int) uint64 {
	if i >= len(a) {
		return 0
	}
	return uint64(a[i])
}

// pairs goes through the parts of two numbers, place by place, the lowest first.
func pairs(a, b api.Nat) iter.Seq2[uint64, uint64] {
	return func(yield func(uint64, uint64) bool) {
		for i := range max(len(a), len(b)) {
			if !yield(part(a, i), part(b, i)) {
				return
			}
		}
	}
}
