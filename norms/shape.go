package norms

import "assayer/api"

// mostRows is how many rows a norm has at most: two for the bounds of each var, and two for each row.
const mostRows = 2*api.MaxVars + 2*api.MaxRows

// shaped tells whether all lists of a norm are as long as they must be.
func shaped(n api.Norm) bool {
	size := len(n.Goal)
	if size == 0 || size > api.MaxVars || len(n.Whole) != size {
		return false
	}
	if len(n.Left) > mostRows || len(n.Right) != len(n.Left) {
		return false
	}
	for _, l := range n.Left {
		if len(l) != size {
			return false
		}
	}
	return true
}
