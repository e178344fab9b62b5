package proofs_test

import (
	"math/big"
	"math/rand"
	"slices"
	"testing"

	"assayer/api"
	"assayer/ints"
	"assayer/proofs"
	"assayer/rats"
)

// span is how far a var of a box may go, and of which place of Mult that is known.
type span struct {
	low, high       int64
	lowRow, highRow int
}

// prover proves what is best in a box of whole numbers, which the first rows of its norm are.
type prover struct {
	r     *rand.Rand
	n     api.Norm
	box   []span
	value *big.Rat // nil, if none fits
	nodes []api.Node
}

// anyBox is a box of so many vars, with so many more rows, each of small fractions.
func anyBox(r *rand.Rand, vars, rows int) *prover {
	p := &prover{r: r, n: api.Norm{Goal: anySmall(r, vars)}}
	for i := range vars {
		low := r.Int63n(9) - 5
		s := span{low, low + r.Int63n(5), 2 * i, 2*i + 1}
		for _, side := range []int64{-1, 1} {
			row := make([]api.Rat, vars)
			for j := range row {
				row[j] = rats.Of(0)
			}
			row[i] = rats.Of(side)
			p.n.Left = append(p.n.Left, row)
		}
		p.n.Right = append(p.n.Right, rats.Of(-s.low), rats.Of(s.high))
		p.n.Whole = append(p.n.Whole, true)
		p.box = append(p.box, s)
	}
	for range rows {
		p.n.Left = append(p.n.Left, anySmall(r, vars))
		p.n.Right = append(p.n.Right, anySmall(r, 1)[0])
	}
	return p
}

// anySmall is so many fractions of small numbers.
func anySmall(r *rand.Rand, size int) []api.Rat {
	var l []api.Rat
	for range size {
		a, _ := rats.Make(ints.Of(r.Int63n(13)-6), ints.Of(1+r.Int63n(3)))
		l = append(l, a)
	}
	return l
}

// points are all whole ones of a box.
func (p *prover) points() [][]api.Rat {
	out := [][]api.Rat{nil}
	for _, s := range p.box {
		var longer [][]api.Rat
		for _, x := range out {
			for v := s.low; v <= s.high; v++ {
				longer = append(longer, append(slices.Clone(x), rats.Of(v)))
			}
		}
		out = longer
	}
	return out
}

// fitting are the points of the box that fit.
func (p *prover) fitting() (out [][]api.Rat) {
	for _, x := range p.points() {
		if refStands(p.n, x) {
			out = append(out, x)
		}
	}
	return out
}

// prove is the proof of what is best, by looking at all points.
func (p *prover) prove() api.Proof {
	out := api.Proof{Verdict: api.VeEmpty}
	for _, x := range p.fitting() {
		if value := dot(p.n.Goal, x); p.value == nil || value.Cmp(p.value) > 0 {
			p.value = value
			out = api.Proof{Verdict: api.VeBest, Point: x, Value: ratOf(value)}
		}
	}
	p.nodes = []api.Node{{Var: -1}}
	p.close(0, slices.Clone(p.box), 0)
	out.Nodes = p.nodes
	return out
}

// close proves what a node must say of a box, split as often as it takes.
func (p *prover) close(node int, box []span, depth int) {
	mult := slices.Repeat([]*big.Rat{new(big.Rat)}, len(p.n.Left)+depth)
	if p.shows(box, mult) {
		p.nodes[node].Mult = nil
		for _, times := range mult {
			p.nodes[node].Mult = append(p.nodes[node].Mult, ratOf(times))
		}
		return
	}
	widest := 0
	for i, s := range box {
		if s.high-s.low > box[widest].high-box[widest].low {
			widest = i
		}
	}
	s := box[widest]
	at, next := s.low+(s.high-s.low)/2, []int{len(p.nodes), len(p.nodes) + 1}
	if p.r.Intn(2) == 0 {
		next[0], next[1] = next[1], next[0]
	}
	p.nodes[node] = split(widest, at, next[0], next[1])
	p.nodes = append(p.nodes, api.Node{Var: -1}, api.Node{Var: -1})
	below, above := slices.Clone(box), slices.Clone(box)
	below[widest].high, below[widest].highRow = at, len(mult)
	above[widest].low, above[widest].lowRow = at+1, len(mult)
	p.close(next[0], below, depth+1)
	p.close(next[1], above, depth+1)
}

// shows looks for a row that no point of the box fits, or whether the goal goes nowhere in it above the value; it then tells how many times each row is taken.
func (p *prover) shows(box []span, mult []*big.Rat) bool {
	for i, l := range p.n.Left[2*len(box):] {
		// The least that the row can be in the box is 0 less the most of what it is turned.
		most, times := along(box, l, -1)
		if most.Neg(most).Cmp(bigOf(p.n.Right[2*len(box)+i])) > 0 {
			times[2*len(box)+i] = big.NewRat(1, 1)
			put(mult, times)
			return true
		}
	}
	most, times := along(box, p.n.Goal, 1)
	if p.value == nil || most.Cmp(p.value) > 0 {
		return false
	}
	put(mult, times)
	return true
}

// along is the most in a box of a sum, or of it turned, and how many times which of the box's rows make it.
func along(box []span, l []api.Rat, side int64) (*big.Rat, map[int]*big.Rat) {
	most, times := new(big.Rat), map[int]*big.Rat{}
	for i, s := range box {
		a := new(big.Rat).Mul(bigOf(l[i]), big.NewRat(side, 1))
		row, end := s.highRow, s.high
		if a.Sign() < 0 {
			row, end = s.lowRow, s.low
		}
		most.Add(most, new(big.Rat).Mul(a, big.NewRat(end, 1)))
		times[row] = new(big.Rat).Abs(a)
	}
	return most, times
}

// put puts how many times rows are taken into a list.
func put(mult []*big.Rat, times map[int]*big.Rat) {
	for i, a := range times {
		mult[i] = a
	}
}

// clone is a copy of a proof that shares no list with it.
func clone(p api.Proof) api.Proof {
	p.Point, p.Ray, p.Nodes = slices.Clone(p.Point), slices.Clone(p.Ray), slices.Clone(p.Nodes)
	for i := range p.Nodes {
		p.Nodes[i].Mult = slices.Clone(p.Nodes[i].Mult)
	}
	return p
}

// cloneNorm is a copy of a norm, likewise.
func cloneNorm(n api.Norm) api.Norm {
	n.Right, n.Goal, n.Whole, n.Left = slices.Clone(n.Right), slices.Clone(n.Goal), slices.Clone(n.Whole), slices.Clone(n.Left)
	for i := range n.Left {
		n.Left[i] = slices.Clone(n.Left[i])
	}
	return n
}

// changeProof changes something of a proof, often such that it holds no more.
func changeProof(r *rand.Rand, p *api.Proof) {
	d := &p.Nodes[r.Intn(len(p.Nodes))]
	other := &p.Nodes[r.Intn(len(p.Nodes))]
	a := anySmall(r, 1)[0]
	switch r.Intn(12) {
	case 0:
		if len(d.Mult) > 0 {
			d.Mult[r.Intn(len(d.Mult))] = a
		}
	case 1:
		if len(d.Mult) > 0 {
			i := r.Intn(len(d.Mult))
			d.Mult[i] = rats.Mul(d.Mult[i], rats.Of(2))
		}
	case 2:
		for i := range d.Mult {
			d.Mult[i] = rats.Mul(d.Mult[i], rats.Of(3))
		}
	case 3:
		d.At = ints.Add(d.At, ints.Of(r.Int63n(3)-1))
	case 4:
		d.Less, d.More = d.More, d.Less
	case 5:
		d.Var = r.Intn(5) - 1
	case 6:
		*d, *other = *other, *d
	case 7:
		d.Mult = append(d.Mult, a)
	case 8:
		p.Value = rats.Add(p.Value, a)
	case 9:
		if len(p.Point) > 0 {
			p.Point[r.Intn(len(p.Point))] = a
		}
	case 10:
		p.Verdict = api.Verdict(r.Intn(5))
	case 11:
		// A leaf that is split for nothing: its Mult holds on both sides.
		if d.Var < 0 {
			mult := append(slices.Clone(d.Mult), rats.Of(0))
			*d = split(0, r.Int63n(9)-4, len(p.Nodes), len(p.Nodes)+1)
			p.Nodes = append(p.Nodes, api.Node{Var: -1, Mult: mult}, api.Node{Var: -1, Mult: slices.Clone(mult)})
		}
	}
}

// changeNorm changes something of a norm behind its box.
func changeNorm(r *rand.Rand, n *api.Norm, box int) {
	a := anySmall(r, 1)[0]
	switch r.Intn(4) {
	case 0:
		n.Goal[r.Intn(len(n.Goal))] = a
	case 1:
		if len(n.Right) > box {
			n.Right[box+r.Intn(len(n.Right)-box)] = a
		}
	case 2:
		if len(n.Right) > box {
			n.Left[box+r.Intn(len(n.Left)-box)][r.Intn(len(n.Goal))] = a
		}
	}
}

// wantSound wants a proof that holds to tell nothing but what is so of all points of a box.
func wantSound(t *testing.T, box *prover, n api.Norm, p api.Proof) {
	t.Helper()
	own := *box
	own.n = n
	for _, x := range own.fitting() {
		if p.Verdict == api.VeEmpty || p.Verdict == api.VeBest && dot(n.Goal, x).Cmp(bigOf(p.Value)) > 0 {
			t.Errorf("%v holds of %v, but %s fits", p, n, texts(x))
		}
	}
	if p.Verdict == api.VeEndless {
		t.Errorf("%v holds of %v, which has an end", p, n)
	}
}

// TestBoxes: what is best in boxes is proved, then the proofs are changed.
func TestBoxes(t *testing.T) { // P14.1, P14.2, P14.4
	r := rand.New(rand.NewSource(143))
	counts := map[api.Verdict]int{}
	changed := map[bool]int{}
	for range 250 {
		box := anyBox(r, 1+r.Intn(3), r.Intn(4))
		p := box.prove()
		counts[p.Verdict]++
		wantCheck(t, "in a box", box.n, p, true)
		wantSound(t, box, box.n, p)
		for node := range p.Nodes {
			wantLeaf(t, "in a box", box.n, p, node)
		}
		for range 40 {
			n, p := cloneNorm(box.n), clone(p)
			if changeProof(r, &p); r.Intn(2) == 0 {
				changeNorm(r, &n, 2*len(box.box))
			}
			want := refCheck(n, p)
			changed[want]++
			if got := proofs.Check(n, p); got != want {
				t.Errorf("Check(%v, %v): %t", n, p, got)
			}
			if want {
				wantSound(t, box, n, p)
			}
		}
	}
	if counts[api.VeBest] < 80 || counts[api.VeEmpty] < 40 || changed[true] < 1000 || changed[false] < 1000 {
		t.Errorf("too few of one kind: %v %v", counts, changed)
	}
}

// TestRays: any points and rays; where they hold, steps along the ray fit, are whole, and lead above any value.
func TestRays(t *testing.T) { // P14.1, P14.4
	r := rand.New(rand.NewSource(144))
	counts := map[bool]int{}
	for range 6000 {
		vars := 1 + r.Intn(3)
		n := api.Norm{Goal: anySmall(r, vars)}
		for range r.Intn(4) {
			n.Left = append(n.Left, anySmall(r, vars))
			n.Right = append(n.Right, anySmall(r, 1)[0])
		}
		p := api.Proof{Verdict: api.VeEndless, Ray: anySmall(r, vars)}
		for range vars {
			n.Whole = append(n.Whole, r.Intn(2) == 0)
			p.Point = append(p.Point, rats.Of(r.Int63n(9)-4))
		}
		want := refCheck(n, p)
		counts[want]++
		if got := proofs.Check(n, p); got != want {
			t.Errorf("Check(%v, %v): %t", n, p, got)
		}
		if !want {
			continue
		}
		// So many times, a ray of these fractions is whole.
		for _, times := range []int64{6, 60, 60000000} {
			x := slices.Clone(p.Point)
			for i := range x {
				x[i] = rats.Add(x[i], rats.Mul(p.Ray[i], rats.Of(times)))
			}
			// The goal and the ray together are at least 1 by 18.
			more := new(big.Rat).Sub(dot(n.Goal, x), dot(n.Goal, p.Point))
			if !refStands(n, x) || more.Cmp(big.NewRat(times, 18)) < 0 {
				t.Errorf("%v: %s, by %s", n, texts(x), more)
			}
		}
	}
	if counts[true] < 300 || counts[false] < 300 {
		t.Errorf("too few of one kind: %v", counts)
	}
}

// TestAnything: whatever is handed in, Check and Leaf end, and answer what the chapter says.
func TestAnything(t *testing.T) { // R1
	r := rand.New(rand.NewSource(145))
	odd := append(mayNot(), anySmall(r, 20)...)
	any := func(size int) (l []api.Rat) {
		for range size {
			l = append(l, odd[r.Intn(len(odd))])
		}
		return l
	}
	oddInts := append(mayNotInts(), ints.Of(0), ints.Of(5), ints.Of(-5))
	for range 20000 {
		n := api.Norm{Right: any(r.Intn(3)), Goal: any(r.Intn(3))}
		for range r.Intn(3) {
			n.Left = append(n.Left, any(r.Intn(3)))
		}
		for range r.Intn(3) {
			n.Whole = append(n.Whole, r.Intn(2) == 0)
		}
		p := api.Proof{Verdict: api.Verdict(r.Intn(5)), Point: any(r.Intn(3)), Ray: any(r.Intn(2)), Value: any(1)[0]}
		for range r.Intn(5) {
			p.Nodes = append(p.Nodes, api.Node{Var: r.Intn(4) - 2, At: oddInts[r.Intn(len(oddInts))], Less: r.Intn(7) - 1, More: r.Intn(7) - 1, Mult: any(r.Intn(4))})
		}
		if got, want := proofs.Check(n, p), refCheck(n, p); got != want {
			t.Errorf("Check(%v, %v): %t", n, p, got)
		}
		for node := -1; node < 6; node++ {
			wantLeaf(t, "anything", n, p, node)
		}
	}
}

// roomy is a copy with spare room, in which something stands.
func roomy(l []api.Rat) []api.Rat {
	nat := func(a api.Nat) api.Nat { return append(slices.Clone(a), 77, 0)[:len(a)] }
	var out []api.Rat
	for _, a := range append(slices.Clone(l), rats.Of(7), api.Rat{}) {
		out = append(out, api.Rat{Num: api.Int{Neg: a.Num.Neg, N: nat(a.Num.N)}, Den: nat(a.Den)})
	}
	return out[:len(l)]
}

// roomyNorm and roomyProof are copies with spare room everywhere.
func roomyNorm(n api.Norm) api.Norm {
	n.Right, n.Goal = roomy(n.Right), roomy(n.Goal)
	n.Whole = append(slices.Clone(n.Whole), true, false, true)[:len(n.Whole)]
	n.Left = append(slices.Clone(n.Left), roomy(n.Goal), nil)[:len(n.Left)]
	for i := range n.Left {
		n.Left[i] = roomy(n.Left[i])
	}
	return n
}

func roomyProof(p api.Proof) api.Proof {
	p.Point, p.Ray, p.Value = roomy(p.Point), roomy(p.Ray), roomy([]api.Rat{p.Value})[0]
	p.Nodes = append(slices.Clone(p.Nodes), split(1, 2, 3, 4), split(5, 6, 7, 8))[:len(p.Nodes)]
	for i := range p.Nodes {
		d := &p.Nodes[i]
		d.At, d.Mult = roomy([]api.Rat{{Num: d.At}})[0].Num, roomy(d.Mult)
	}
	return p
}

// lists are all fractions of a norm and a proof.
func lists(n api.Norm, p api.Proof) [][]api.Rat {
	out := append(slices.Clone(n.Left), n.Right, n.Goal, p.Point, p.Ray, []api.Rat{p.Value})
	for _, d := range p.Nodes {
		out = append(out, d.Mult, []api.Rat{{Num: d.At, Den: api.Nat{uint32(d.Var), uint32(d.Less), uint32(d.More)}}})
	}
	return out
}

// flat is all that stands in lists, and in their spare room.
func flat(lists [][]api.Rat) []uint32 {
	var out []uint32
	for _, l := range lists {
		for _, a := range l[:cap(l)] {
			sign := uint32(0)
			if a.Num.Neg {
				sign = 1
			}
			out = append(append(append(out, sign), a.Num.N[:cap(a.Num.N)]...), a.Den[:cap(a.Den)]...)
		}
	}
	return out
}

// stamp writes another number into each part of each number, and its spare room, and looks whether they are all still there.
func stamp(t *testing.T, l []api.Rat) {
	t.Helper()
	var nats []api.Nat
	for _, a := range l {
		nats = append(nats, a.Num.N[:cap(a.Num.N)], a.Den[:cap(a.Den)])
	}
	for i, n := range nats {
		for j := range n {
			n[j] = uint32(i)
		}
	}
	for i, n := range nats {
		for _, p := range n {
			if p != uint32(i) {
				t.Errorf("number %d shares memory", i)
			}
		}
	}
}

// TestMemory: what is handed in is not changed; what is answered is new.
func TestMemory(t *testing.T) { // R4
	r := rand.New(rand.NewSource(146))
	ends, endlessly := endlessExample(t)
	first, itself := example(t)
	type both struct {
		n api.Norm
		p api.Proof
	}
	all := []both{{ends, endlessly}, {first, itself}, {first, tree(leaf(t, "1 0"))}}
	for range 20 {
		box := anyBox(r, 1+r.Intn(2), r.Intn(4))
		all = append(all, both{box.n, box.prove()})
	}
	for _, c := range all {
		n, p := roomyNorm(c.n), roomyProof(c.p)
		was, whole := flat(lists(n, p)), slices.Clone(n.Whole[:cap(n.Whole)])
		proofs.Check(n, p)
		for node := range p.Nodes {
			path, _ := proofs.Path(p, node)
			again, _ := proofs.Path(p, node)
			want := slices.Clone(again)
			clear(path[:cap(path)])
			left, right, e := proofs.Leaf(n, p, node)
			other, otherRight, _ := proofs.Leaf(n, p, node)
			told := texts(append(slices.Clone(other), otherRight))
			stamp(t, append(slices.Clone(left), right))
			clear(left[:cap(left)])
			if !slices.Equal(again, want) || texts(append(slices.Clone(other), otherRight)) != told {
				t.Errorf("two answers share memory: %d", e)
			}
		}
		if !slices.Equal(flat(lists(n, p)), was) || !slices.Equal(n.Whole[:cap(n.Whole)], whole) {
			t.Errorf("what was handed in is changed: %v %v", n, p)
		}
		for node := range p.Nodes {
			wantLeaf(t, "once more", n, p, node)
		}
	}
}

// TestGreat: the greatest norm, and proofs that take many rows, or many splits, end in time.
func TestGreat(t *testing.T) { // R1, P14.1
	r := rand.New(rand.NewSource(147))
	var n api.Norm
	for range api.MaxVars {
		n.Goal, n.Whole = append(n.Goal, rats.Of(1)), append(n.Whole, true)
	}
	for range api.MaxVars + api.MaxRows {
		row := anySmall(r, api.MaxVars)
		var turned []api.Rat
		for _, a := range row {
			turned = append(turned, rats.Sub(rats.Of(0), a))
		}
		n.Left, n.Right = append(n.Left, row, turned), append(n.Right, rats.Of(1), rats.Of(-10000000))
	}
	for splits, taken := range map[int]int{1000: 2, 100: len(n.Left)} {
		p := api.Proof{Verdict: api.VeEmpty, Nodes: chain(splits, true)}
		for i := range p.Nodes {
			if d := &p.Nodes[i]; d.Var < 0 {
				depth := min(i/2+i%2, splits)
				d.Mult = append(slices.Repeat(list(t, "1"), taken), slices.Repeat(list(t, "0"), len(n.Left)-taken)...)
				d.Mult = append(d.Mult, slices.Repeat(list(t, "1"), depth)...)
				// More as often as Less: there the splits leave nothing of x.
				d.Mult[len(d.Mult)-1] = rats.Of(int64(depth - 1))
			}
		}
		last := &p.Nodes[len(p.Nodes)-1]
		copy(last.Mult[len(n.Left):], slices.Repeat(list(t, "0"), splits))
		if !proofs.Check(n, p) {
			t.Errorf("%d splits: it holds", splits)
		}
		last.Mult[0] = rats.Of(2)
		if proofs.Check(n, p) {
			t.Errorf("%d splits: the last one says too much", splits)
		}
	}
}
