package ints

import (
	"slices"

	"assayer/api"
	"assayer/nats"
)

// Add, Sub, Mul, Neg. (P2.4)
func Add(a, b api.Int) api.Int {
	x, y := orZero(a), orZero(b)
	return x.adding(y.Neg)(y.N)
}

// Sub: likewise.
func Sub(a, b api.Int) api.Int {
	x, y := orZero(a), orZero(b)
	return x.adding(!y.Neg)(y.N)
}

// Mul: likewise.
func Mul(a, b api.Int) api.Int {
	x, y := orZero(a), orZero(b)
	return signed(x.Neg != y.Neg, nats.Mul(x.N, y.N))
}

// Neg: likewise.
func Neg(a api.Int) api.Int {
	x := orZero(a)
	return signed(!x.Neg, slices.Clone(x.N))
}

// number is a whole number that may be.
type number api.Int

// orZero is the number, or 0, if it may not be.
func orZero(a api.Int) number {
	if !Check(a) {
		return number{}
	}
	return number(a)
}

// signed is n, or 0 less n. It keeps n's memory.
func signed(neg bool, n api.Nat) api.Int { return api.Int{Neg: neg && len(n) > 0, N: n} }

// adding tells what becomes of the number, if something below 0, or from 0 on, comes to it: that takes how great it is, without its sign.
func (x number) adding(neg bool) func(api.Nat) api.Int {
	if x.Neg == neg {
		return x.farther
	}
	return x.back
}

// farther is so far away from 0, on the number's own side.
func (x number) farther(by api.Nat) api.Int { return signed(x.Neg, nats.Add(x.N, by)) }

// back is so far to 0, and beyond, if there is more of it.
func (x number) back(by api.Nat) api.Int {
	if left, e := nats.Sub(x.N, by); e == api.OK {
		return signed(x.Neg, left)
	}
	beyond, _ := nats.Sub(by, x.N)
	return signed(!x.Neg, beyond)
}
