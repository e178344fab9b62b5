package rats

import (
	"assayer/api"
	"assayer/ints"
	"assayer/nats"
)

// parts of a fraction: what stands above the stroke, and what stands below it, from 1 on.
type parts [2]api.Int

// The places of the parts.
const (
	above = iota
	below
)

// partsOf are the parts of a fraction, or of 0, if it may not be. They share its memory.
func partsOf(a api.Rat) parts {
	if !Check(a) {
		return parts{api.Int{}, ints.Of(1)}
	}
	return parts{a.Num, api.Int{N: a.Den}}
}

// fraction has these parts, which have nothing in common. It keeps their memory.
func fraction(x parts) api.Rat { return api.Rat{Num: x[above], Den: x[below].N} }

// ofTwo makes of two fractions what made makes of their parts: all that is done with two goes this way, so that it is said once what one that may not be is.
func ofTwo[T any](a, b api.Rat, made func(x, y parts) T) T { return made(partsOf(a), partsOf(b)) }

// common is the greatest number by which both can be divided with nothing left.
func common(a, b api.Int) api.Int { return api.Int{N: nats.Gcd(a.N, b.N)} }

// over is the number by one above 0, by which it can be divided with nothing left; in new memory.
func over(a, by api.Int) api.Int {
	times, _, _ := nats.Div(a.N, by.N)
	return api.Int{Neg: a.Neg, N: times}
}
