package proofs_test

import (
	"math/big"
	"slices"
	"strings"
	"testing"

	"assayer/api"
	"assayer/ints"
	"assayer/rats"
)

// What the chapter says, once more, by another library and without care for time: what the package answers is held against it.

// list is the fractions of texts, with blanks between them.
func list(t *testing.T, s string) []api.Rat {
	t.Helper()
	var l []api.Rat
	for _, w := range strings.Fields(s) {
		a, e := rats.Parse(w)
		if e != api.OK {
			t.Fatalf("%q is no fraction's text: %d", w, e)
		}
		l = append(l, a)
	}
	return l
}

// grid is lists, with semicolons between them.
func grid(t *testing.T, s string) [][]api.Rat {
	t.Helper()
	var out [][]api.Rat
	for _, row := range strings.Split(s, ";") {
		if l := list(t, row); len(l) > 0 {
			out = append(out, l)
		}
	}
	return out
}

// norm is one of texts, whose vars must be whole where there is a w, one sign each.
func norm(t *testing.T, left, right, goal, whole string) api.Norm {
	t.Helper()
	n := api.Norm{Left: grid(t, left), Right: list(t, right), Goal: list(t, goal)}
	for _, c := range whole {
		n.Whole = append(n.Whole, c == 'w')
	}
	return n
}

// text is a fraction, or that it may not be.
func text(a api.Rat) string {
	if !rats.Check(a) {
		return "?"
	}
	return rats.Text(a)
}

// texts are fractions, with blanks between them.
func texts(l []api.Rat) string {
	var out []string
	for _, a := range l {
		out = append(out, text(a))
	}
	return strings.Join(out, " ")
}

// bigOf is a fraction that may be.
func bigOf(a api.Rat) *big.Rat {
	q := new(big.Rat).SetFrac(bigInt(a.Num), bigInt(api.Int{N: a.Den}))
	return q
}

func bigInt(a api.Int) *big.Int {
	n := new(big.Int)
	for _, p := range slices.Backward(a.N) {
		n.Or(n.Lsh(n, 32), big.NewInt(int64(p)))
	}
	if a.Neg {
		n.Neg(n)
	}
	return n
}

func intOf(n *big.Int) api.Int {
	a := api.Int{Neg: n.Sign() < 0}
	for n = new(big.Int).Abs(n); n.Sign() > 0; n.Rsh(n, 32) {
		a.N = append(a.N, uint32(new(big.Int).And(n, big.NewInt(1<<32-1)).Uint64()))
	}
	return a
}

func ratOf(q *big.Rat) api.Rat { return api.Rat{Num: intOf(q.Num()), Den: intOf(q.Denom()).N} }

// mayAll tells whether all fractions may be.
func mayAll(l []api.Rat) bool {
	return !slices.ContainsFunc(l, func(a api.Rat) bool { return !rats.Check(a) })
}

// dot is two lists, place by place, together.
func dot(a, b []api.Rat) *big.Rat {
	sum := new(big.Rat)
	for i := range a {
		sum.Add(sum, new(big.Rat).Mul(bigOf(a[i]), bigOf(b[i])))
	}
	return sum
}

// refNorm tells whether a norm may be.
func refNorm(n api.Norm) bool {
	size := len(n.Goal)
	if size < 1 || size > api.MaxVars || len(n.Whole) != size || len(n.Left) > 2*(api.MaxVars+api.MaxRows) || len(n.Right) != len(n.Left) {
		return false
	}
	for _, l := range n.Left {
		if len(l) != size || !mayAll(l) {
			return false
		}
	}
	return mayAll(n.Right) && mayAll(n.Goal)
}

// refTree tells whether nodes are a tree.
func refTree(l []api.Node) bool {
	if len(l) < 1 || len(l) > api.MaxNodes {
		return false
	}
	hang := make([]int, len(l))
	for i, d := range l {
		if d.Var < 0 {
			continue
		}
		if d.Less == d.More || d.Less <= i || d.More <= i || d.Less >= len(l) || d.More >= len(l) {
			return false
		}
		hang[d.Less]++
		hang[d.More]++
	}
	for _, times := range hang[1:] {
		if times != 1 {
			return false
		}
	}
	return true
}

// refPath is the path to a node; none, if there is no tree, or no such node.
func refPath(l []api.Node, node int) []int {
	if !refTree(l) || node < 0 || node >= len(l) {
		return nil
	}
	if node == 0 {
		return []int{0}
	}
	above := slices.IndexFunc(l, func(d api.Node) bool { return d.Var >= 0 && (d.Less == node || d.More == node) })
	return append(refPath(l, above), node)
}

// refNode tells whether a node of a tree may be.
func refNode(n api.Norm, l []api.Node, node int) bool {
	d := l[node]
	if d.Var >= 0 {
		return d.Var < len(n.Whole) && n.Whole[d.Var] && ints.Check(d.At) && len(d.Mult) == 0
	}
	if d.Var != -1 || d.At.Neg || len(d.At.N) != 0 || d.Less != 0 || d.More != 0 {
		return false
	}
	if len(d.Mult) != len(n.Left)+len(refPath(l, node))-1 || !mayAll(d.Mult) {
		return false
	}
	return !slices.ContainsFunc(d.Mult, func(a api.Rat) bool { return a.Num.Neg })
}

// refLeaf is what is said above a node, and whether it may be asked.
func refLeaf(n api.Norm, l []api.Node, node int) (left []*big.Rat, right *big.Rat, ok bool) {
	path := refPath(l, node)
	if !refNorm(n) || path == nil || l[node].Var >= 0 {
		return nil, nil, false
	}
	for _, at := range path {
		if !refNode(n, l, at) {
			return nil, nil, false
		}
	}
	right = new(big.Rat)
	for range n.Goal {
		left = append(left, new(big.Rat))
	}
	mult := l[node].Mult
	for i, row := range n.Left {
		for j, a := range row {
			left[j].Add(left[j], new(big.Rat).Mul(bigOf(a), bigOf(mult[i])))
		}
		right.Add(right, new(big.Rat).Mul(bigOf(n.Right[i]), bigOf(mult[i])))
	}
	for i, at := range path[:len(path)-1] {
		side, most, times := big.NewRat(1, 1), new(big.Rat).SetInt(bigInt(l[at].At)), bigOf(mult[len(n.Left)+i])
		if l[at].More == path[i+1] {
			side.Neg(side)
			most.Sub(most.Neg(most), big.NewRat(1, 1))
		}
		left[l[at].Var].Add(left[l[at].Var], side.Mul(side, times))
		right.Add(right, most.Mul(most, times))
	}
	return left, right, true
}

// refStands tells whether a point fits, and is whole where it must be.
func refStands(n api.Norm, x []api.Rat) bool {
	if len(x) != len(n.Goal) || !mayAll(x) {
		return false
	}
	for i, l := range n.Left {
		if dot(l, x).Cmp(bigOf(n.Right[i])) > 0 {
			return false
		}
	}
	for i, w := range n.Whole {
		if w && !bigOf(x[i]).IsInt() {
			return false
		}
	}
	return true
}

// refCheck tells whether a proof holds.
func refCheck(n api.Norm, p api.Proof) bool {
	if !refNorm(n) {
		return false
	}
	noValue := !p.Value.Num.Neg && len(p.Value.Num.N) == 0 && len(p.Value.Den) == 0
	switch p.Verdict {
	case api.VeBest:
		return refStands(n, p.Point) && rats.Check(p.Value) && dot(n.Goal, p.Point).Cmp(bigOf(p.Value)) == 0 && len(p.Ray) == 0 && refNodes(n, p, bigOf(p.Value))
	case api.VeEmpty:
		return len(p.Point) == 0 && len(p.Ray) == 0 && noValue && refNodes(n, p, nil)
	case api.VeEndless:
		if !refStands(n, p.Point) || len(p.Ray) != len(n.Goal) || !mayAll(p.Ray) || len(p.Nodes) != 0 || !noValue {
			return false
		}
		for _, l := range n.Left {
			if dot(l, p.Ray).Sign() > 0 {
				return false
			}
		}
		return dot(n.Goal, p.Ray).Sign() > 0
	}
	return false
}

// refNodes tells whether all nodes show what they must: that none fits, or that none has more than a value.
func refNodes(n api.Norm, p api.Proof, value *big.Rat) bool {
	if !refTree(p.Nodes) {
		return false
	}
	for i, d := range p.Nodes {
		if !refNode(n, p.Nodes, i) {
			return false
		}
		if d.Var >= 0 {
			continue
		}
		left, right, ok := refLeaf(n, p.Nodes, i)
		if !ok {
			return false
		}
		nought, goal := true, true
		for j, a := range left {
			nought = nought && a.Sign() == 0
			goal = goal && a.Cmp(bigOf(n.Goal[j])) == 0
		}
		if !(nought && right.Sign() < 0) && !(value != nil && goal && right.Cmp(value) <= 0) {
			return false
		}
	}
	return true
}
