package nats

import (
	"slices"

	"assayer/api"
)

const (
	chunkDigits = 9          // as many digits as always go into a part
	chunk       = 1000000000 // ten to the power of these
)

// Text: its digits; Parse: back. (P1.7)
func Text(a api.Nat) string {
	var l []byte
	next := digits(orZero(a))
	for more := true; more; {
		var d byte
		d, more = next()
		l = append(l, d)
	}
	slices.Reverse(l)
	return string(l)
}

// Parse: likewise.
func Parse(s string) (api.Nat, api.Errno) {
	switch {
	case !isNumber(s):
		return nil, api.ErrForm
	case len(s) > api.MaxDigits:
		return nil, api.ErrLimit
	}
	var a api.Nat
	for _, c := range []byte(s) {
		a = timesAnd(a, 10, uint32(c-'0'))
	}
	return a, api.OK
}

// digits tells at each call the next digit of a number, the lowest first, and whether there are more.
func digits(a api.Nat) func() (byte, bool) {
	// A division of the whole number for each digit would be nine times the work.
	rest, low, ready := slices.Clone(a), uint32(0), 0
	return func() (byte, bool) {
		if ready == 0 {
			rest, low = divideByPart(rest, chunk)
			ready = chunkDigits
		}
		d := '0' + byte(low%10)
		low /= 10
		ready--
		return d, low != 0 || len(rest) != 0
	}
}

// isNumber tells whether a text is digits, none of them needless.
func isNumber(s string) bool {
	for _, c := range []byte(s) {
		if c < '0' || c > '9' {
			return false
		}
	}
	return len(s) == 1 || len(s) > 1 && s[0] != '0'
}

// timesAnd is the number, so many times, and a part more, in place.
func timesAnd(a api.Nat, times, more uint32) api.Nat {
	carry := uint64(more)
	for i, p := range slices.All(a) {
		carry += uint64(p) * uint64(times)
		a[i] = uint32(carry)
		carry >>= width
	}
	return trim(append(a, uint32(carry)))
}
