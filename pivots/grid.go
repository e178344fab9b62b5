package pivots

import (
	"slices"

	"assayer/api"
	"assayer/rats"
	"assayer/vecs"
)

// isGrid tells whether there is a row and a column, all rows are as long, and each fraction may be.
func isGrid(l [][]api.Rat) bool {
	if len(l) == 0 || len(l[0]) == 0 {
		return false
	}
	for _, row := range l {
		if len(row) != len(l[0]) || !vecs.Check(row) {
			return false
		}
	}
	return true
}

// has tells whether there is such a place.
func has[A any](l []A, at int) bool { return 0 <= at && at < len(l) }

// ahead is all but the last one; there is one.
func ahead[A any](l []A) []A { return l[:len(l)-1] }

// last is the last one; there is one.
func last[A any](l []A) A { return l[len(l)-1] }

// isZero tells of a fraction that may be whether it is 0. It is asked so often that rats.Sign, which looks first whether it may be, would take as long as what it spares.
func isZero(a api.Rat) bool { return len(a.Num.N) == 0 }

// turned is a grid, turned at a place where 0 does not stand, in new memory.
func turned(l [][]api.Rat, at, col int) [][]api.Rat {
	by, _ := rats.Div(rats.Of(1), l[at][col])
	turner := vecs.Scale(l[at], by)
	out := make([][]api.Rat, 0, len(l))
	for i, row := range l {
		if i == at {
			out = append(out, turner)
		} else {
			out = append(out, less(row, turner, row[col]))
		}
	}
	return out
}

// less is a row less another one, so many times, in new memory.
func less(row, other []api.Rat, times api.Rat) []api.Rat {
	out := make([]api.Rat, 0, len(row))
	for i, a := range row {
		// Grids that are turned are mostly 0: a copy is less work than to take 0 away.
		if isZero(other[i]) || isZero(times) {
			out = append(out, own(a))
		} else {
			out = append(out, rats.Sub(a, rats.Mul(other[i], times)))
		}
	}
	return out
}

// own is the fraction in new memory.
func own(a api.Rat) api.Rat {
	return api.Rat{Num: api.Int{Neg: a.Num.Neg, N: slices.Clone(a.Num.N)}, Den: slices.Clone(a.Den)}
}

// share is what stands last in a row, by what stands there at some column.
type share struct {
	row int
	of  api.Rat
}

// sharesOf are the shares of those rows that have more than 0 at the column.
func sharesOf(l [][]api.Rat, col int) []share {
	var out []share
	for i, row := range l {
		if rats.Sign(row[col]) > 0 {
			of, _ := rats.Div(last(row), row[col])
			out = append(out, share{i, of})
		}
	}
	return out
}
