package proofs

import (
	"assayer/api"
	"assayer/ints"
	"assayer/rats"
	"assayer/vecs"
)

// products are what is still to be added: each amount, so many times.
type products struct {
	amounts, times []api.Rat
}

// put puts an amount that may be, if it is not 0. It keeps the memory.
func (s *products) put(amount, times api.Rat) {
	if ints.Sign(amount.Num) != 0 {
		s.amounts, s.times = append(s.amounts, amount), append(s.times, times)
	}
}

// together is all of them, added.
func (s products) together() api.Rat {
	sum, _ := vecs.Dot(s.amounts, s.times)
	return sum
}

// rows are rows that are at most something, so many times each, column by column: all that goes into one sum is added at once, as a sum that grows row by row has longer fractions.
type rows struct {
	columns []products
	right   products
}

// put puts a row.
func (r *rows) put(left []api.Rat, right, times api.Rat) {
	for i, a := range left {
		r.columns[i].put(a, times)
	}
	r.right.put(right, times)
}

// putSplit puts the row that a node's split is above the next one on a path.
func (r *rows) putSplit(d api.Node, next int, times api.Rat) {
	side, most := rats.Of(1), d.At
	if next == d.More {
		side, most = rats.Of(-1), ints.Sub(ints.Neg(d.At), ints.Of(1))
	}
	// In a long path, most columns of a whole row would be looked at for nothing.
	r.columns[d.Var].put(side, times)
	r.right.put(fraction(most), times)
}

// together is all of them as one row.
func (r *rows) together() (left []api.Rat, right api.Rat) {
	left = make([]api.Rat, 0, len(r.columns))
	for _, c := range r.columns {
		left = append(left, c.together())
	}
	return left, r.right.together()
}

// says is what the rows of a norm and the splits above a node say together, so many times as it tells; all of these may be.
func (t tree) says(n api.Norm, node int) (left []api.Rat, right api.Rat) {
	path, out := t.path(node), rows{columns: make([]products, len(n.Goal))}
	for i, times := range t.nodes[node].Mult {
		at := i - len(n.Left)
		switch {
		case ints.Sign(times.Num) == 0:
			// Of most proofs nearly all are 0: so what is not taken is not looked at.
			continue
		case at < 0:
			out.put(n.Left[i], n.Right[i], times)
		default:
			out.putSplit(t.nodes[path[at]], path[at+1], times)
		}
	}
	return out.together()
}

// fraction is a whole number as one.
func fraction(a api.Int) api.Rat {
	out, _ := rats.Make(a, ints.Of(1))
	return out
}
