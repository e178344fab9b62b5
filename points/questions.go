package points

import (
	"assayer/api"
	"assayer/rats"
	"assayer/vecs"
)

// question is one thing that a point must be.
type question func() bool

// all tells whether the point is all that is asked. Behind the first thing that it is not, nothing is asked any more.
func all(asked ...question) bool {
	for _, is := range asked {
		if !is() {
			return false
		}
	}
	return true
}

// ofVars asks something of each var and what the point has for it.
func ofVars(m api.Model, x []api.Rat, is func(v api.Var, a api.Rat) bool) question {
	return func() bool {
		for i, v := range m.Vars {
			if !is(v, x[i]) {
				return false
			}
		}
		return true
	}
}

// ofRows asks whether each row holds.
func ofRows(m api.Model, x []api.Rat) question {
	return func() bool {
		for _, r := range m.Rows {
			if !holds(r, x) {
				return false
			}
		}
		return true
	}
}

func notBelow(v api.Var, a api.Rat) bool { return !v.HasLow || rats.Cmp(a, v.Low) >= 0 }

func notAbove(v api.Var, a api.Rat) bool { return !v.HasHigh || rats.Cmp(a, v.High) <= 0 }

func wholeEnough(v api.Var, a api.Rat) bool { return !v.Whole || rats.Whole(a) }

// holds tells whether a row does, of a kind that may be.
func holds(r api.Row, x []api.Rat) bool {
	sum, _ := vecs.Dot(r.Coef, x)
	side := rats.Cmp(sum, r.Right)
	switch r.Kind {
	case api.KiLess:
		return side <= 0
	case api.KiMore:
		return side >= 0
	}
	return side == 0
}
