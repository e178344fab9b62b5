package vecs

import (
	"iter"

	"assayer/api"
	"assayer/rats"
)

// places goes through two lists, place by place, as far as both go.
func places[A, B any](a []A, b []B) iter.Seq2[A, B] {
	return func(yield func(A, B) bool) {
		for i := range min(len(a), len(b)) {
			if !yield(a[i], b[i]) {
				return
			}
		}
	}
}

// joined is what join makes of both, place by place.
func joined[A, B, C any](a []A, b []B, join func(A, B) C) []C {
	out := make([]C, 0, min(len(a), len(b)))
	for x, y := range places(a, b) {
		out = append(out, join(x, y))
	}
	return out
}

// match tells whether there are as many in both, and all may be.
func match(a, b []api.Rat) bool { return len(a) == len(b) && Check(a) && Check(b) }

// sum is all of them together. It may keep their memory: it is for fractions that were just made.
func sum(l []api.Rat) api.Rat {
	switch len(l) {
	case 0:
		return rats.Of(0)
	case 1:
		return l[0]
	}
	// By halves most of the sums are of short fractions; one by one, all would be as long as the whole.
	half := len(l) / 2
	return rats.Add(sum(l[:half]), sum(l[half:]))
}
