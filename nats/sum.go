package nats

import (
	"slices"

	"assayer/api"
)

// Add, Sub, Mul: of two. (P1.4)
func Add(a, b api.Nat) api.Nat {
	a, b = orZero(a), orZero(b)
	sum := make(api.Nat, 0, max(len(a), len(b))+1)
	carry := uint64(0)
	for p, q := range pairs(a, b) {
		carry += p + q
		sum = append(sum, uint32(carry))
		carry >>= width
	}
	return trim(append(sum, uint32(carry)))
}

// Sub: of the greater one the less one.
func Sub(a, b api.Nat) (api.Nat, api.Errno) {
	if !Check(a) || !Check(b) || Cmp(a, b) < 0 {
		return nil, api.ErrArg
	}
	return blend(a, b, 1, 1), api.OK
}

// Mul: of two.
func Mul(a, b api.Nat) api.Nat {
	a, b = orZero(a), orZero(b)
	product := make(api.Nat, len(a)+len(b))
	for i, p := range slices.All(a) {
		product[i+len(b)] = addTimes(product[i:i+len(b)], b, p)
	}
	return trim(product)
}

// addTimes adds b, so many times, to a, which has as many parts, in place, and answers what does not go in.
func addTimes(a, b api.Nat, times uint32) uint32 {
	carry := uint64(0)
	for i, p := range slices.All(b) {
		carry += uint64(p)*uint64(times) + uint64(a[i])
		a[i] = uint32(carry)
		carry >>= width
	}
	return uint32(carry)
}

// blend is a, so many times, less b, so many times. That has to be from 0 on, with no more parts than a or b has.
func blend(a, b api.Nat, times, less uint32) api.Nat {
	out := make(api.Nat, 0, max(len(a), len(b)))
	var plus, minus, borrow uint64
	for p, q := range pairs(a, b) {
		plus += p * uint64(times)
		minus += q * uint64(less)
		d := plus&topPart - minus&topPart - borrow
		out = append(out, uint32(d))
		plus, minus, borrow = plus>>width, minus>>width, d>>63
	}
	return trim(out)
}
