package nats

import (
	"math/bits"
	"slices"

	"assayer/api"
)

// Div: how often, and what is left. (P1.5)
func Div(a, b api.Nat) (q, r api.Nat, e api.Errno) {
	switch {
	case !Check(a) || !Check(b):
		return nil, nil, api.ErrArg
	case len(b) == 0:
		return nil, nil, api.ErrZero
	}
	q, r = divide(a, b)
	return q, r, api.OK
}

// divide is Div of a number that is not 0.
func divide(a, b api.Nat) (q, r api.Nat) {
	switch {
	case Cmp(a, b) < 0:
		return nil, trim(slices.Clone(a))
	case len(b) == 1:
		q, left := divideByPart(slices.Clone(a), b[0])
		return q, Of(uint64(left))
	}
	return divideByParts(a, b)
}

// divideByPart divides in place, and answers what is left, too.
func divideByPart(a api.Nat, by uint32) (api.Nat, uint32) {
	left := uint64(0)
	for i, p := range slices.Backward(a) {
		left = left<<width | uint64(p)
		a[i] = uint32(left / uint64(by))
		left %= uint64(by)
	}
	return trim(a), uint32(left)
}

// divideByParts divides as one does on paper, part by part from the top. b has two parts at least, and is not above a.
func divideByParts(a, b api.Nat) (q, r api.Nat) {
	// With the highest bit of b set, a guess by the highest parts is at most 2 too great.
	shift := uint(bits.LeadingZeros32(b[len(b)-1]))
	rest, by := moveUp(a, shift), moveUp(b, shift)[:len(b)]
	q = make(api.Nat, len(a)-len(b)+1)
	for i := range slices.Backward(q) {
		q[i] = takeOut(rest[i:i+len(by)+1], by)
	}
	moveDown(rest, shift)
	return trim(q), trim(rest)
}

// takeOut takes by out of rest, which has one part more, as often as it goes in, and answers how often that is: at most topPart times.
func takeOut(rest, by api.Nat) uint32 {
	times := guess(rest, by)
	if !subTimes(rest, by, times) {
		return times
	}
	rest[len(by)] += addTimes(rest[:len(by)], by, 1)
	return times - 1
}

// guess is how often by goes into rest, or one more.
func guess(rest, by api.Nat) uint32 {
	n := len(by)
	high, next := uint64(by[n-1]), uint64(by[n-2])
	head := uint64(rest[n])<<width | uint64(rest[n-1])
	times, left := head/high, head%high
	for left <= topPart && (times > topPart || times*next > left<<width|uint64(rest[n-2])) {
		times--
		left += high
	}
	return uint32(times)
}

// subTimes takes b, so many times, from a, which has one part more, in place.
// It answers whether that went below 0: then what stands there went round.
func subTimes(a, b api.Nat, times uint32) bool {
	var carry, borrow uint64
	for i, p := range slices.All(b) {
		carry += uint64(p) * uint64(times)
		d := uint64(a[i]) - carry&topPart - borrow
		a[i] = uint32(d)
		carry, borrow = carry>>width, d>>63
	}
	d := uint64(a[len(b)]) - carry - borrow
	a[len(b)] = uint32(d)
	return d>>63 != 0
}

// moveUp moves the bits so many places up, fewer than a part has, into one part more.
func moveUp(a api.Nat, by uint) api.Nat {
	out := make(api.Nat, 0, len(a)+1)
	carry := uint64(0)
	for _, p := range slices.All(a) {
		carry |= uint64(p) << by
		out = append(out, uint32(carry))
		carry >>= width
	}
	return append(out, uint32(carry))
}

// moveDown moves the bits so many places down, fewer than a part has, in place.
func moveDown(a api.Nat, by uint) {
	above := uint32(0)
	for i, p := range slices.Backward(a) {
		a[i] = uint32((uint64(above)<<width | uint64(p)) >> by)
		above = p
	}
}
