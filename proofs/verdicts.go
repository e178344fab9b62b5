package proofs

import (
	"assayer/api"
	"assayer/norms"
	"assayer/rats"
	"assayer/vecs"
)

// never: of a verdict that says nothing there is no proof.
func never(api.Norm, api.Proof) bool { return false }

// best tells whether the point is there, and nothing goes above its value.
func best(n api.Norm, p api.Proof) bool {
	if len(p.Ray) > 0 || !rats.Check(p.Value) || !stands(n, p.Point) {
		return false
	}
	value, _ := vecs.Dot(n.Goal, p.Point)
	return rats.Cmp(value, p.Value) == 0 && eachSays(n, p.Nodes, func(left []api.Rat, right api.Rat) bool {
		return impossible(left, right) || vecs.Same(left, n.Goal) && rats.Cmp(right, p.Value) <= 0
	})
}

// empty tells whether what is said can hold of no point.
func empty(n api.Norm, p api.Proof) bool {
	return len(p.Point) == 0 && len(p.Ray) == 0 && isNone(p.Value) && eachSays(n, p.Nodes, impossible)
}

// endless tells whether the ray leads from the point on, by what fits, ever higher.
func endless(n api.Norm, p api.Proof) bool {
	return len(p.Nodes) == 0 && isNone(p.Value) && stands(n, p.Point) && leads(n, p.Ray)
}

// stands tells whether a point fits, and is whole where it must be.
func stands(n api.Norm, x []api.Rat) bool { return norms.Fits(n, x) && norms.Whole(n, x) }

// leads tells whether a ray goes against no row, and up.
func leads(n api.Norm, ray []api.Rat) bool {
	up, e := vecs.Dot(n.Goal, ray)
	if e != api.OK || rats.Sign(up) <= 0 {
		return false
	}
	for _, l := range n.Left {
		if against, _ := vecs.Dot(l, ray); rats.Sign(against) > 0 {
			return false
		}
	}
	return true
}

// eachSays tells whether the nodes are a tree, each may be, and each that is not split says enough.
func eachSays(n api.Norm, l []api.Node, enough func(left []api.Rat, right api.Rat) bool) bool {
	t, may := treeOf(l)
	if !may || !t.allMay(n) {
		return false
	}
	for at := range t.each(leaf) {
		if !enough(t.says(n, at)) {
			return false
		}
	}
	return true
}

// impossible tells whether a row asks that 0 be less than 0.
func impossible(left []api.Rat, right api.Rat) bool {
	return rats.Sign(right) < 0 && vecs.Same(left, vecs.Zero(len(left)))
}
