package proofs

import (
	"iter"
	"slices"

	"assayer/api"
)

// none stands where there is no node.
const none = -1

// tree is nodes that are one.
type tree struct {
	nodes []api.Node
	above []int // of each node, the place of the one that it is Less or More of; none of the first one
	depth []int // of each node, how many stand above it
}

// treeOf is the tree of nodes, and whether they are one. It keeps their memory.
func treeOf(l []api.Node) (tree, bool) {
	if len(l) == 0 || len(l) > api.MaxNodes {
		return tree{}, false
	}
	t := tree{nodes: l, above: slices.Repeat([]int{none}, len(l)), depth: make([]int, len(l))}
	for at, d := range t.each(split) {
		// A Less that is the More as well hangs there already when More is looked at.
		if !t.hang(d.Less, at) || !t.hang(d.More, at) {
			return tree{}, false
		}
	}
	return t, !slices.Contains(t.above[1:], none)
}

// hang puts a node below another one, and tells whether it may stand there.
func (t tree) hang(node, above int) bool {
	if node <= above || !t.has(node) || t.above[node] != none {
		return false
	}
	// All nodes stand behind those above them: so that one's depth is known by now.
	t.above[node], t.depth[node] = above, t.depth[above]+1
	return true
}

// has tells whether there is such a node.
func (t tree) has(node int) bool { return node >= 0 && node < len(t.nodes) }

// split tells whether a node is split.
func split(d api.Node) bool { return d.Var >= 0 }

// leaf tells whether a node is not split.
func leaf(d api.Node) bool { return !split(d) }

// each goes through the nodes of a kind, and their places.
func (t tree) each(kind func(api.Node) bool) iter.Seq2[int, api.Node] {
	return func(yield func(int, api.Node) bool) {
		for at, d := range t.nodes {
			if kind(d) && !yield(at, d) {
				return
			}
		}
	}
}

// up goes from a node up to the first one.
func (t tree) up(node int) iter.Seq[int] {
	return func(yield func(int) bool) {
		for at := node; at != none && yield(at); at = t.above[at] {
		}
	}
}

// path is the places from the first one down to a node.
func (t tree) path(node int) []int {
	out := make([]int, t.depth[node]+1)
	for at := range t.up(node) {
		out[t.depth[at]] = at
	}
	return out
}
