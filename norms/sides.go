package norms

import (
	"assayer/api"
	"assayer/rats"
	"assayer/vecs"
)

// How many times something is put into a norm.
const (
	asItIs int64 = 1
	turned int64 = -1
)

// sides are both of a norm's rows.
type sides struct {
	left  [][]api.Rat
	right []api.Rat
}

// add adds a row, whose memory it keeps.
func (s *sides) add(left []api.Rat, right api.Rat) {
	s.left = append(s.left, left)
	s.right = append(s.right, right)
}

// putter puts a row that is at most something, so many times.
type putter func(coef []api.Rat, right api.Rat, times int64)

// putBy puts rows by what adds them.
func putBy(add func(left []api.Rat, right api.Rat)) putter {
	return func(coef []api.Rat, right api.Rat, times int64) {
		by := rats.Of(times)
		// What is put as it is goes through here too: so it shares no memory with the model.
		add(vecs.Scale(coef, by), rats.Mul(right, by))
	}
}

// putBounds puts a row for each bound that is asked for.
func putBounds(l []api.Var, put putter) {
	for i, v := range l {
		alone := vecs.Zero(len(l))
		alone[i] = rats.Of(1)
		if v.HasLow {
			put(alone, v.Low, turned)
		}
		if v.HasHigh {
			put(alone, v.High, asItIs)
		}
	}
}

// putRows puts each row, of a kind that may be: one that is just so much is at most that, and at least that.
func putRows(l []api.Row, put putter) {
	for _, r := range l {
		if r.Kind != api.KiMore {
			put(r.Coef, r.Right, asItIs)
		}
		if r.Kind != api.KiLess {
			put(r.Coef, r.Right, turned)
		}
	}
}

// goal is the goal of which the most is sought.
func goal(m api.Model) []api.Rat {
	if m.Most {
		return vecs.Scale(m.Goal, rats.Of(asItIs))
	}
	return vecs.Scale(m.Goal, rats.Of(turned))
}

// wholes tells of each var whether it must be whole.
func wholes(l []api.Var) []bool {
	out := make([]bool, 0, len(l))
	for _, v := range l {
		out = append(out, v.Whole)
	}
	return out
}
