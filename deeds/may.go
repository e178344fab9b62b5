package deeds

import (
	"math"

	"assayer/api"
	"assayer/ints"
	"assayer/rats"
)

// may tells whether all that a proof is made of can be written; how many nodes there are is not looked at.
func may(p api.Proof) bool {
	if !mayAll(p.Point) || !mayStand(p.Value) || !mayAll(p.Ray) {
		return false
	}
	for _, n := range p.Nodes {
		// The zero struct of At is 0, which may be.
		if !mayPoint(n.Var) || !ints.Check(n.At) || !mayPoint(n.Less) || !mayPoint(n.More) || !mayAll(n.Mult) {
			return false
		}
	}
	return true
}

// mayAll tells whether fractions can be written.
func mayAll(l []api.Rat) bool {
	for _, a := range l {
		if !mayStand(a) {
			return false
		}
	}
	return true
}

// mayStand tells whether a fraction can be written: it may be, or is the zero struct.
func mayStand(a api.Rat) bool { return isNone(a) || rats.Check(a) }

// mayPoint tells whether a node's Var, Less or More can be written.
func mayPoint(n int) bool { return n >= -1 && n <= math.MaxInt32 }

// isNone tells whether a fraction is the zero struct.
func isNone(a api.Rat) bool { return !a.Num.Neg && len(a.Num.N) == 0 && len(a.Den) == 0 }
