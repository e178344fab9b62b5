package proofs

import (
	"assayer/api"
	"assayer/ints"
	"assayer/rats"
)

// unsplit is the Var of a node that is not split.
const unsplit = -1

// allMay tells whether all nodes may be, of a norm that may be.
func (t tree) allMay(n api.Norm) bool {
	for at := range t.nodes {
		if !t.may(n, at) {
			return false
		}
	}
	return true
}

// mayAbove tells whether a node and all above it may be, of a norm that may be.
func (t tree) mayAbove(n api.Norm, node int) bool {
	for at := range t.up(node) {
		if !t.may(n, at) {
			return false
		}
	}
	return true
}

// may tells whether a node may be, of a norm that may be.
func (t tree) may(n api.Norm, node int) bool {
	d := t.nodes[node]
	if split(d) {
		return d.Var < len(n.Whole) && n.Whole[d.Var] && ints.Check(d.At) && len(d.Mult) == 0
	}
	asked := len(n.Left) + t.depth[node]
	return d.Var == unsplit && isZero(d.At) && d.Less == 0 && d.More == 0 && len(d.Mult) == asked && fromZero(d.Mult)
}

// fromZero tells whether fractions may be, and are at least 0: less than 0 times, a row would say at least, no longer at most.
func fromZero(l []api.Rat) bool {
	for _, a := range l {
		if !rats.Check(a) || ints.Sign(a.Num) < 0 {
			return false
		}
	}
	return true
}

// isZero tells whether a whole number is the zero struct.
func isZero(a api.Int) bool { return !a.Neg && len(a.N) == 0 }

// isNone tells whether a fraction is the zero struct.
func isNone(a api.Rat) bool { return isZero(a.Num) && len(a.Den) == 0 }
