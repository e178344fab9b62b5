package proofs_test

import (
	"math"
	"math/rand"
	"slices"
	"testing"

	"assayer/api"
	"assayer/ints"
	"assayer/proofs"
	"assayer/rats"
)

// split is a node that is split.
func split(place int, at int64, less, more int) api.Node {
	return api.Node{Var: place, At: ints.Of(at), Less: less, More: more}
}

// leaf is a node that is not split, with the fractions of a text.
func leaf(t *testing.T, mult string) api.Node {
	t.Helper()
	return api.Node{Var: -1, Mult: list(t, mult)}
}

// tree is a proof of nothing but nodes.
func tree(l ...api.Node) api.Proof { return api.Proof{Nodes: l} }

// mayNot are fractions that may not be.
func mayNot() []api.Rat {
	one, two := api.Nat{1}, api.Nat{2}
	return []api.Rat{
		{}, {Num: api.Int{N: one}}, {Num: api.Int{N: one}, Den: api.Nat{0}}, {Den: two}, {Num: api.Int{N: two}, Den: api.Nat{4}}, {Num: api.Int{Neg: true, N: api.Nat{3}}, Den: api.Nat{3}},
		{Num: api.Int{Neg: true}, Den: one}, {Num: api.Int{N: api.Nat{0}}, Den: one}, {Num: api.Int{N: api.Nat{1, 0}}, Den: one}, {Num: api.Int{N: one}, Den: api.Nat{2, 0}},
	}
}

// mayNotInts are whole numbers that may not be.
func mayNotInts() []api.Int {
	return []api.Int{{Neg: true}, {N: api.Nat{0}}, {Neg: true, N: api.Nat{0}}, {N: api.Nat{5, 0}}, {Neg: true, N: api.Nat{1, 5, 0}}}
}

// wantPath wants Path's answer of each node, and of such as are not there, to be what the chapter says.
func wantPath(t *testing.T, what string, p api.Proof) {
	t.Helper()
	var nodes []int
	for node := range p.Nodes {
		nodes = append(nodes, node)
	}
	for _, node := range append(nodes, -1, -2, len(nodes), len(nodes)+1, math.MaxInt, math.MinInt, math.MinInt+1) {
		want, fault := refPath(p.Nodes, node), api.OK
		if want == nil {
			fault = api.ErrArg
		}
		got, e := proofs.Path(p, node)
		if !slices.Equal(got, want) || e != fault {
			t.Fatalf("%s: Path of %d: %v %d, but it is %v %d, of %v", what, node, got, e, want, fault, p.Nodes)
		}
	}
}

func TestPath(t *testing.T) { // P14.3
	alone := leaf(t, "")
	for what, c := range map[string]struct {
		p    api.Proof
		node int
		want []int
	}{
		"one node":                  {tree(alone), 0, []int{0}},
		"the first one":             {tree(split(0, 2, 1, 2), alone, alone), 0, []int{0}},
		"Less":                      {tree(split(0, 2, 1, 2), alone, alone), 1, []int{0, 1}},
		"More":                      {tree(split(0, 2, 1, 2), alone, alone), 2, []int{0, 2}},
		"More stands ahead":         {tree(split(0, 2, 2, 1), alone, alone), 1, []int{0, 1}},
		"below Less":                {tree(split(0, 2, 1, 2), split(0, 1, 3, 4), alone, alone, alone), 4, []int{0, 1, 4}},
		"below More":                {tree(split(0, 2, 1, 2), alone, split(0, 1, 3, 4), alone, alone), 3, []int{0, 2, 3}},
		"crossed":                   {tree(split(0, 2, 5, 1), split(3, 0, 4, 2), split(0, 7, 3, 6), alone, alone, alone, alone), 3, []int{0, 1, 2, 3}},
		"what is said elsewhere":    {tree(split(math.MaxInt, 2, 1, 2), api.Node{Var: -7, At: api.Int{Neg: true}, Less: 1, More: 2, Mult: mayNot()}, api.Node{Var: 1, Less: 4, More: 3, Mult: mayNot()}, alone, alone), 4, []int{0, 2, 4}},
		"the least Var is no split": {tree(api.Node{Var: math.MinInt, Less: 1, More: 2}), 0, []int{0}},
	} {
		got, e := proofs.Path(c.p, c.node)
		if !slices.Equal(got, c.want) || e != api.OK {
			t.Errorf("%s: %v %d", what, got, e)
		}
		// Neither the verdict nor a point is asked for.
		c.p.Verdict, c.p.Point, c.p.Value, c.p.Ray = 77, mayNot(), mayNot()[0], mayNot()
		got, e = proofs.Path(c.p, c.node)
		if !slices.Equal(got, c.want) || e != api.OK {
			t.Errorf("%s, and more: %v %d", what, got, e)
		}
		wantPath(t, what, c.p)
	}
}

// noTrees are nodes that are no tree.
func noTrees(t *testing.T) map[string][]api.Node {
	t.Helper()
	alone := leaf(t, "")
	return map[string][]api.Node{
		"none":                            nil,
		"none, not nil":                   {},
		"one that hangs nowhere":          {alone, alone},
		"two that hang nowhere":           {alone, alone, alone},
		"the last one hangs nowhere":      {split(0, 0, 1, 2), alone, alone, alone},
		"one between hangs nowhere":       {split(0, 0, 1, 3), alone, alone, alone},
		"the same one twice":              {split(0, 0, 1, 1), alone},
		"the same one twice, another one": {split(0, 0, 1, 1), alone, alone},
		"Less is itself":                  {split(0, 0, 0, 1), alone},
		"More is itself":                  {split(0, 0, 1, 0), alone},
		"itself alone":                    {split(0, 0, 0, 0)},
		"Less stands above":               {split(0, 0, 1, 2), split(0, 0, 0, 3), alone, alone},
		"More stands above":               {split(0, 0, 1, 2), split(0, 0, 3, 0), alone, alone},
		"below one behind":                {split(0, 0, 2, 3), alone, split(0, 0, 1, 4), alone, alone},
		"Less is below 0":                 {split(0, 0, -1, 1), alone},
		"More is below 0":                 {split(0, 0, 1, -1), alone},
		"Less is not there":               {split(0, 0, 3, 1), alone, alone},
		"More is not there":               {split(0, 0, 1, 3), alone, alone},
		"both are not there":              {split(0, 0, 1, 2)},
		"the greatest place":              {split(0, 0, math.MaxInt, 1), alone},
		"the least place":                 {split(0, 0, 1, math.MinInt), alone},
		"on two":                          {split(0, 0, 1, 2), split(0, 0, 2, 3), alone, alone},
		"on two, both":                    {split(0, 0, 1, 2), split(0, 0, 3, 4), split(0, 0, 3, 4), alone, alone},
		"a split without places":          {{Var: 0}},
		"on one that is not split":        {{Var: -1, Less: 1, More: 2}, alone, alone},
		"a ring":                          {alone, split(0, 0, 2, 3), split(0, 0, 1, 4), alone, alone},
	}
}

func TestNoTree(t *testing.T) { // P14.3, P14.2
	n := norm(t, "1", "1", "0", "w")
	for what, l := range noTrees(t) {
		wantPath(t, what, tree(l...))
		for node := range 6 {
			wantNoLeaf(t, what, n, tree(l...), node)
			if got, e := proofs.Path(tree(l...), node); got != nil || e != api.ErrArg {
				t.Errorf("%s: Path of %d: %v %d", what, node, got, e)
			}
		}
	}
}

// TestAllShort: all nodes of which there are at most three, with all places around.
func TestAllShort(t *testing.T) { // P14.3
	counts := map[bool]int{}
	for size := 1; size <= 3; size++ {
		var kinds []api.Node
		for less := -1; less <= size; less++ {
			for more := -1; more <= size; more++ {
				kinds = append(kinds, api.Node{Var: 0, Less: less, More: more}, api.Node{Var: -1, Less: less, More: more})
			}
		}
		each(size, len(kinds), func(l []int) {
			var p api.Proof
			for _, kind := range l {
				p.Nodes = append(p.Nodes, kinds[kind])
			}
			counts[refTree(p.Nodes)]++
			wantPath(t, "short", p)
		})
	}
	if counts[true] < 10 || counts[false] < 1000 {
		t.Errorf("too few of one kind: %v", counts)
	}
}

// each calls with all lists of so many numbers from 0 on, below most.
func each(size, most int, call func(l []int)) {
	l := make([]int, size)
	for {
		call(l)
		i := 0
		for i < size && l[i] == most-1 {
			l[i] = 0
			i++
		}
		if i == size {
			return
		}
		l[i]++
	}
}

// anyTree is a tree of so many splits, each of any var below vars, in any order; leaves are without Mult.
func anyTree(r *rand.Rand, splits, vars int) []api.Node {
	l := []api.Node{{Var: -1}}
	open := []int{0}
	for range splits {
		i := r.Intn(len(open))
		at, next := open[i], []int{len(l), len(l) + 1}
		if r.Intn(2) == 0 {
			next[0], next[1] = next[1], next[0]
		}
		l[at] = split(r.Intn(vars), r.Int63n(9)-4, next[0], next[1])
		l = append(l, api.Node{Var: -1}, api.Node{Var: -1})
		open = append(slices.Delete(open, i, i+1), next...)
	}
	return l
}

// TestAnyTrees: trees in which something is changed, or nothing.
func TestAnyTrees(t *testing.T) { // P14.3
	r := rand.New(rand.NewSource(141))
	counts := map[bool]int{}
	for range 4000 {
		l := anyTree(r, r.Intn(12), 3)
		for range r.Intn(3) {
			d, place := &l[r.Intn(len(l))], r.Intn(len(l)+2)-1
			switch r.Intn(6) {
			case 0:
				d.Less = place
			case 1:
				d.More = place
			case 2:
				d.Less, d.More = d.More, d.Less
			case 3:
				d.Var = r.Intn(4) - 2
			case 4:
				l = append(l, api.Node{Var: -1})
			case 5:
				other := &l[r.Intn(len(l))]
				*d, *other = *other, *d
			}
		}
		counts[refTree(l)]++
		wantPath(t, "changed", tree(l...))
	}
	if counts[true] < 500 || counts[false] < 500 {
		t.Errorf("too few of one kind: %v", counts)
	}
}

// chain is a tree of so many splits, each below the one ahead of it: below its More, if down, else below its Less.
func chain(splits int, down bool) []api.Node {
	var l []api.Node
	for i := range splits {
		d := split(0, int64(i), 2*i+1, 2*i+2)
		if !down {
			d.Less, d.More = d.More, d.Less
		}
		l = append(l, d, api.Node{Var: -1})
	}
	// Nodes stand in the order in which they were split: the split ones have even places.
	return append(l, api.Node{Var: -1})
}

func TestManyNodes(t *testing.T) { // P14.3, P14.2
	n := norm(t, "", "", "0", "w")
	for splits, may := range map[int]bool{2000: true, 2047: true, 2048: false, 2049: false, 5000: false} {
		for _, down := range []bool{true, false} {
			l := chain(splits, down)
			last := len(l) - 1
			l[last].Mult = slices.Repeat(list(t, "0"), splits)
			var want []int
			fault := api.ErrArg
			if may {
				fault = api.OK
				for i := range splits + 1 {
					want = append(want, 2*i)
				}
			}
			got, e := proofs.Path(tree(l...), last)
			if !slices.Equal(got, want) || e != fault {
				t.Errorf("%d splits: %d %d", splits, len(got), e)
			}
			if left, right, e := proofs.Leaf(n, tree(l...), last); e != fault || may != (texts(left) == "0" && text(right) == "0") {
				t.Errorf("%d splits: Leaf: %v %v %d", splits, left, right, e)
			}
		}
	}
	// No tree has an even number of nodes: the limit itself is none because of that alone.
	if _, e := proofs.Path(tree(append(chain(2047, true), api.Node{Var: -1})...), 0); e != api.ErrArg {
		t.Errorf("%d nodes: %d", api.MaxNodes, e)
	}
}

// wantLeaf wants Leaf's answer to be what the chapter says.
func wantLeaf(t *testing.T, what string, n api.Norm, p api.Proof, node int) {
	t.Helper()
	sums, sum, ok := refLeaf(n, p.Nodes, node)
	if !ok {
		wantNoLeaf(t, what, n, p, node)
		return
	}
	var want []api.Rat
	for _, q := range sums {
		want = append(want, ratOf(q))
	}
	left, right, e := proofs.Leaf(n, p, node)
	if e != api.OK || texts(left) != texts(want) || text(right) != text(ratOf(sum)) {
		t.Errorf("%s: Leaf of %d: %s; %s, %d, but it is %s; %s", what, node, texts(left), text(right), e, texts(want), text(ratOf(sum)))
	}
}

// wantNoLeaf wants nothing but an error.
func wantNoLeaf(t *testing.T, what string, n api.Norm, p api.Proof, node int) {
	t.Helper()
	left, right, e := proofs.Leaf(n, p, node)
	if left != nil || right.Num.Neg || right.Num.N != nil || right.Den != nil || e != api.ErrArg {
		t.Errorf("%s: Leaf of %d: %v; %v, %d", what, node, left, right, e)
	}
}

// example is the chapter's norm, and its proof.
func example(t *testing.T) (api.Norm, api.Proof) {
	t.Helper()
	return norm(t, "1; -1", "5/2 0", "1", "w"), api.Proof{
		Verdict: api.VeBest, Point: list(t, "2"), Value: rats.Of(2),
		Nodes: []api.Node{split(0, 2, 1, 2), leaf(t, "0 0 1"), leaf(t, "1 0 1")},
	}
}

// great is the digits of a number of several parts.
const great = "1000000000000000000000000000000000000007"

func TestLeaf(t *testing.T) { // P14.2
	n, p := example(t)
	two := norm(t, "1 2; -1/2 3; 0 0", "3 -5 7/3", "4 1", "ww")
	far := api.Node{Var: 1, At: ints.Mul(list(t, great)[0].Num, list(t, "-"+great)[0].Num), Less: 1, More: 2}
	for what, c := range map[string]struct {
		n           api.Norm
		p           api.Proof
		node        int
		left, right string
	}{
		"the example's Less":             {n, p, 1, "1", "2"},
		"the example's More":             {n, p, 2, "0", "-1/2"},
		"one node":                       {n, tree(leaf(t, "3 1/2")), 0, "5/2", "15/2"},
		"one node, of nothing":           {n, tree(leaf(t, "0 0")), 0, "0", "0"},
		"no rows":                        {norm(t, "", "", "1 1", "--"), tree(leaf(t, "")), 0, "0 0", "0"},
		"rows":                           {two, tree(leaf(t, "1 2 3")), 0, "0 8", "0"},
		"a row":                          {two, tree(leaf(t, "0 1/3 0")), 0, "-1/6 1", "-5/3"},
		"a row of noughts":               {two, tree(leaf(t, "0 0 3")), 0, "0 0", "7"},
		"Less of the second var":         {two, tree(split(1, -4, 1, 2), leaf(t, "0 0 0 5"), leaf(t, "")), 1, "0 5", "-20"},
		"More of the second var":         {two, tree(split(1, -4, 1, 2), leaf(t, ""), leaf(t, "0 0 0 5")), 2, "0 -5", "15"},
		"Less of the first var, at 0":    {two, tree(split(0, 0, 2, 1), leaf(t, ""), leaf(t, "0 0 0 1")), 2, "1 0", "0"},
		"More of the first var, at 0":    {two, tree(split(0, 0, 2, 1), leaf(t, "0 0 0 1"), leaf(t, "")), 1, "-1 0", "-1"},
		"More at -1":                     {two, tree(split(0, -1, 1, 2), leaf(t, ""), leaf(t, "0 0 0 1")), 2, "-1 0", "0"},
		"far away":                       {two, tree(far, leaf(t, "0 0 0 1"), leaf(t, "")), 1, "0 1", "-1000000000000000000000000000000000000014000000000000000000000000000000000000049"},
		"far away, at least":             {two, tree(far, leaf(t, ""), leaf(t, "0 0 0 1")), 2, "0 -1", "1000000000000000000000000000000000000014000000000000000000000000000000000000048"},
		"the first split's comes first":  {two, tree(split(0, 3, 1, 2), split(1, 10, 3, 4), leaf(t, ""), leaf(t, "0 0 0 1 0"), leaf(t, "0 0 0 0 1")), 3, "1 0", "3"},
		"the second split's comes next":  {two, tree(split(0, 3, 1, 2), split(1, 10, 3, 4), leaf(t, ""), leaf(t, "0 0 0 1 0"), leaf(t, "0 0 0 0 1")), 4, "0 -1", "-11"},
		"both splits, of the same var":   {two, tree(split(0, 3, 2, 1), split(0, 10, 3, 4), leaf(t, ""), leaf(t, "1 0 0 1/2 2"), leaf(t, "")), 3, "5/2 2", "21"},
		"the rows' and the splits'":      {two, tree(split(0, 3, 2, 1), split(1, 10, 3, 4), leaf(t, ""), leaf(t, "1 2 0 1/2 2"), leaf(t, "")), 3, "-1/2 10", "11"},
		"of what is told of no verdict":  {n, api.Proof{Verdict: 200, Point: mayNot(), Ray: mayNot(), Value: mayNot()[0], Nodes: p.Nodes}, 1, "1", "2"},
		"other leaves may not be":        {n, tree(p.Nodes[0], p.Nodes[1], api.Node{Var: -9, Less: 5, Mult: mayNot()}), 1, "1", "2"},
		"splits elsewhere may not be":    {n, tree(split(0, 2, 1, 2), leaf(t, "0 0 1"), api.Node{Var: 5, At: mayNotInts()[0], Less: 3, More: 4, Mult: mayNot()}, leaf(t, ""), leaf(t, "")), 1, "1", "2"},
		"an empty list, and an empty At": {n, tree(api.Node{Var: 0, At: api.Int{N: api.Nat{}}, Less: 1, More: 2, Mult: []api.Rat{}}, api.Node{Var: -1, At: api.Int{N: api.Nat{}}, Mult: list(t, "0 0 1")}, leaf(t, "")), 1, "1", "0"},
	} {
		left, right, e := proofs.Leaf(c.n, c.p, c.node)
		if texts(left) != c.left || text(right) != c.right || e != api.OK {
			t.Errorf("%s: %s; %s, %d", what, texts(left), text(right), e)
		}
		for node := range len(c.p.Nodes) + 1 {
			wantLeaf(t, what, c.n, c.p, node)
		}
	}
}

func TestWrongLeaf(t *testing.T) { // P14.2
	n, p := example(t)
	for _, node := range []int{-1, 0, 3, 4, math.MaxInt, math.MinInt} {
		wantNoLeaf(t, "no node, or one that is split", n, p, node)
	}
	// Each way in which a node may not be; of both nodes below, or of the first one alone.
	for what, change := range wrongLeaves(t) {
		for node := 1; node <= 2; node++ {
			_, p := example(t)
			change(&p.Nodes[node])
			wantNoLeaf(t, what, n, p, node)
			wantLeaf(t, what, n, p, 3-node)
			if _, _, e := proofs.Leaf(n, p, 3-node); e != api.OK {
				t.Errorf("%s: it is no matter to the other one: %d", what, e)
			}
		}
	}
	for what, change := range wrongSplits(t) {
		_, p := example(t)
		change(&p.Nodes[0])
		wantNoLeaf(t, what, n, p, 1)
		wantNoLeaf(t, what, n, p, 2)
	}
	for what, n := range wrongNorms(t) {
		_, p := example(t)
		wantNoLeaf(t, what, n, p, 1)
		wantNoLeaf(t, what, n, tree(leaf(t, "0 0")), 0)
	}
	loose := norm(t, "1; -1", "5/2 0", "1", "-")
	wantNoLeaf(t, "a split of what need not be whole", loose, p, 1)
	wantLeaf(t, "nothing need be whole", loose, tree(leaf(t, "0 1")), 0)
}

// wrongLeaves are changes of a leaf of the example, behind each of which it may not be.
func wrongLeaves(t *testing.T) map[string]func(d *api.Node) {
	t.Helper()
	out := map[string]func(d *api.Node){
		"no Mult":                 func(d *api.Node) { d.Mult = nil },
		"Mult of rows alone":      func(d *api.Node) { d.Mult = list(t, "1 1") },
		"a short Mult":            func(d *api.Node) { d.Mult = d.Mult[:2] },
		"a long Mult":             func(d *api.Node) { d.Mult = append(d.Mult, rats.Of(0)) },
		"below 0, of a row":       func(d *api.Node) { d.Mult[0] = rats.Of(-1) },
		"below 0, of another row": func(d *api.Node) { d.Mult[1] = list(t, "-1/1000000000000000000000000000000")[0] },
		"below 0, of the split":   func(d *api.Node) { d.Mult[2] = rats.Of(-1) },
		"another Var":             func(d *api.Node) { d.Var = -2 },
		"the least Var":           func(d *api.Node) { d.Var = math.MinInt },
		"a Less":                  func(d *api.Node) { d.Less = 1 },
		"a Less below 0":          func(d *api.Node) { d.Less = -1 },
		"a More":                  func(d *api.Node) { d.More = 2 },
		"a More below 0":          func(d *api.Node) { d.More = -1 },
		"an At":                   func(d *api.Node) { d.At = ints.Of(1) },
		"an At below 0":           func(d *api.Node) { d.At = ints.Of(-1) },
	}
	for i, odd := range mayNotInts() {
		out["an At that may not be, "+string(rune('a'+i))] = func(d *api.Node) { d.At = odd }
	}
	for i, odd := range mayNot() {
		for at := range 3 {
			out["what may not be, "+string(rune('a'+i))+" in place "+string(rune('0'+at))] = func(d *api.Node) { d.Mult[at] = odd }
		}
	}
	return out
}

// wrongSplits are changes of the first node of the example, behind each of which it may not be, or the nodes are no tree.
func wrongSplits(t *testing.T) map[string]func(d *api.Node) {
	t.Helper()
	out := map[string]func(d *api.Node){
		"a Var that is not there": func(d *api.Node) { d.Var = 1 },
		"the greatest Var":        func(d *api.Node) { d.Var = math.MaxInt },
		"not split":               func(d *api.Node) { d.Var = -1 },
		"a Mult":                  func(d *api.Node) { d.Mult = list(t, "0 0") },
		"a Mult of one":           func(d *api.Node) { d.Mult = list(t, "0") },
		"a Mult like a leaf's":    func(d *api.Node) { d.Mult = list(t, "1 0 1") },
		"the same one twice":      func(d *api.Node) { d.Less = 2 },
		"not there":               func(d *api.Node) { d.More = 3 },
		"itself":                  func(d *api.Node) { d.Less = 0 },
	}
	for i, odd := range mayNotInts() {
		out["an At that may not be, "+string(rune('a'+i))] = func(d *api.Node) { d.At = odd }
	}
	return out
}

// wrongNorms are like the example's, but may not be.
func wrongNorms(t *testing.T) map[string]api.Norm {
	t.Helper()
	out := map[string]api.Norm{
		"the zero struct":         {},
		"no goal":                 norm(t, "1; -1", "5/2 0", "", ""),
		"no rows":                 norm(t, "", "5/2 0", "1", "w"),
		"no right":                norm(t, "1; -1", "", "1", "w"),
		"a short right":           norm(t, "1; -1", "5/2", "1", "w"),
		"a long right":            norm(t, "1; -1", "5/2 0 0", "1", "w"),
		"a long row":              norm(t, "1; -1 0", "5/2 0", "1", "w"),
		"a long goal":             norm(t, "1; -1", "5/2 0", "1 0", "w"),
		"a long goal, and Whole":  norm(t, "1; -1", "5/2 0", "1 0", "ww"),
		"nothing about the whole": norm(t, "1; -1", "5/2 0", "1", ""),
		"a long Whole":            norm(t, "1; -1", "5/2 0", "1", "ww"),
	}
	for i, odd := range mayNot() {
		of := " " + string(rune('a'+i))
		n, _ := example(t)
		n.Left[1][0] = odd
		out["a row of what may not be"+of] = n
		n, _ = example(t)
		n.Right[0] = odd
		out["a right of what may not be"+of] = n
		n, _ = example(t)
		n.Goal[0] = odd
		out["a goal of what may not be"+of] = n
	}
	return out
}

// TestAnyLeaves: any trees with any Mult, over any norms.
func TestAnyLeaves(t *testing.T) { // P14.2
	r := rand.New(rand.NewSource(142))
	asked := 0
	for range 300 {
		n := anyNorm(r, 1+r.Intn(4), r.Intn(6))
		l := anyTree(r, r.Intn(8), len(n.Goal))
		for i := range l {
			if l[i].Var < 0 {
				l[i].Mult = anyList(r, len(n.Left)+len(refPath(l, i))-1, false)
			}
		}
		for node := range l {
			if _, _, ok := refLeaf(n, l, node); ok {
				asked++
			}
			wantLeaf(t, "any", n, tree(l...), node)
		}
	}
	if asked < 500 {
		t.Errorf("too few: %d", asked)
	}
}

// anyList is so many fractions, some of them 0, some below 0, if they may be.
func anyList(r *rand.Rand, size int, below bool) []api.Rat {
	var l []api.Rat
	for range size {
		num := r.Int63n(1 << (1 + r.Intn(62)))
		if r.Intn(3) == 0 {
			num = 0
		}
		if below && r.Intn(2) == 0 {
			num = -num
		}
		a, _ := rats.Make(ints.Of(num), ints.Of(1+r.Int63n(1<<(1+r.Intn(62)))))
		l = append(l, a)
	}
	return l
}

// anyNorm is a norm of so many vars and rows; most vars must be whole.
func anyNorm(r *rand.Rand, vars, rows int) api.Norm {
	n := api.Norm{Right: anyList(r, rows, true), Goal: anyList(r, vars, true)}
	for range rows {
		n.Left = append(n.Left, anyList(r, vars, true))
	}
	for range vars {
		n.Whole = append(n.Whole, r.Intn(8) > 0)
	}
	return n
}
