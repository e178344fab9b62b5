package nats

import (
	"math/bits"
	"slices"

	"assayer/api"
)

// Gcd: the greatest that both can be divided by. (P1.6)
func Gcd(a, b api.Nat) api.Nat {
	a, b = orZero(a), orZero(b)
	if Cmp(a, b) < 0 {
		a, b = b, a
	}
	for len(b) > inWord {
		a, b = lessen(a, b)
	}
	switch {
	case len(b) == 0:
		return trim(slices.Clone(a))
	case len(a) > inWord:
		_, r := divide(a, b)
		a, b = b, r
	}
	return Of(gcdOfWords(word(a), word(b)))
}

// gcdOfWords is Gcd of two numbers of 64 bits.
func gcdOfWords(a, b uint64) uint64 {
	for b != 0 {
		a, b = b, a%b
	}
	return a
}

// lessen makes lesser numbers with the same Gcd of two that have more than 64 bits.
// The first one is not below the second one, and so it is with those that come out.
func lessen(a, b api.Nat) (api.Nat, api.Nat) {
	s := stepsOf(heads(a, b))
	switch {
	case s.v0 == 0:
		_, r := divide(a, b)
		return b, r
	case s.even:
		return blend(a, b, s.u0, s.v0), blend(b, a, s.v1, s.u1)
	}
	return blend(b, a, s.v0, s.u0), blend(a, b, s.u1, s.v1)
}

// heads are the 64 highest bits of the first number, and what stands in their places in the second one.
func heads(a, b api.Nat) (uint64, uint64) {
	shift := uint(bits.LeadingZeros32(a[len(a)-1]))
	return head(a, len(a), shift), head(b, len(a), shift)
}

// head is 64 bits of a number: those below the shift highest bits of n parts.
func head(a api.Nat, n int, shift uint) uint64 {
	return (part(a, n-1)<<width|part(a, n-2))<<shift | part(a, n-3)>>(width-shift)
}

// steps tells what some divisions, one behind the other, make of two numbers: of a and b they make
// v0 b less u0 a, and u1 a less v1 b; if even, each the other way about.
type steps struct {
	u0, v0, u1, v1 uint32
	even           bool
}

// stepsOf tells the divisions, but the last one, that are sure of all numbers with these heads (Lehmer's way);
// v0 is 0, if there are none. The loop's condition, Collins's, also keeps each factor within a part.
func stepsOf(a, b uint64) steps {
	var u, v = [3]uint64{0, 1, 0}, [3]uint64{0, 0, 1}
	even := false
	for b >= v[2] && a-b >= v[1]+v[2] {
		q := a / b
		a, b = b, a%b
		u = [3]uint64{u[1], u[2], u[1] + q*u[2]}
		v = [3]uint64{v[1], v[2], v[1] + q*v[2]}
		even = !even
	}
	return steps{uint32(u[0]), uint32(v[0]), uint32(u[1]), uint32(v[1]), even}
}
