package deeds_test

import (
	"bytes"
	"math/rand"
	"slices"
	"testing"

	"assayer/api"
	"assayer/deeds"
	"assayer/rats"
)

// roomy is a copy with spare room, in which something stands.
func roomy(l []api.Rat) []api.Rat {
	nat := func(a api.Nat) api.Nat { return append(slices.Clone(a), 77, 0)[:len(a)] }
	var out []api.Rat
	for _, a := range append(slices.Clone(l), rats.Of(7), api.Rat{}) {
		out = append(out, api.Rat{Num: api.Int{Neg: a.Num.Neg, N: nat(a.Num.N)}, Den: nat(a.Den)})
	}
	return out[:len(l)]
}

// roomyProof is a copy with spare room everywhere.
func roomyProof(p api.Proof) api.Proof {
	p.Point, p.Ray, p.Value = roomy(p.Point), roomy(p.Ray), roomy([]api.Rat{p.Value})[0]
	p.Nodes = append(slices.Clone(p.Nodes), api.Node{Var: 1, Mult: roomy(nil)}, api.Node{Var: 5})[:len(p.Nodes)]
	for i := range p.Nodes {
		n := &p.Nodes[i]
		n.At, n.Mult = roomy([]api.Rat{{Num: n.At}})[0].Num, roomy(n.Mult)
	}
	return p
}

// flat is all that stands in a proof, and in its spare room.
func flat(p api.Proof) []uint32 {
	var out []uint32
	add := func(l []api.Rat) {
		for _, a := range l[:cap(l)] {
			sign := uint32(0)
			if a.Num.Neg {
				sign = 1
			}
			out = append(append(append(out, sign), a.Num.N[:cap(a.Num.N)]...), a.Den[:cap(a.Den)]...)
		}
	}
	add(p.Point)
	add(p.Ray)
	add([]api.Rat{p.Value})
	for _, n := range p.Nodes[:cap(p.Nodes)] {
		add(n.Mult)
		add([]api.Rat{{Num: n.At, Den: api.Nat{uint32(n.Var), uint32(n.Less), uint32(n.More)}}})
	}
	return out
}

// stamp writes another number into each part of each number of some proofs, and its spare room, and into the spare room of their lists; and looks whether they are all still there.
func stamp(t *testing.T, l ...api.Proof) {
	t.Helper()
	var all []*uint32
	each := func(n api.Nat) {
		for i := range n[:cap(n)] {
			all = append(all, &n[:cap(n)][i])
		}
	}
	fractions := func(l []api.Rat) {
		for _, a := range l {
			each(a.Num.N)
			each(a.Den)
		}
		for i := len(l); i < cap(l); i++ {
			l[:cap(l)][i] = api.Rat{Num: api.Int{N: make(api.Nat, 1)}}
			each(l[:cap(l)][i].Num.N)
		}
	}
	for _, p := range l {
		fractions(p.Point)
		fractions(p.Ray)
		fractions([]api.Rat{p.Value})
		for _, n := range p.Nodes {
			fractions(n.Mult)
			each(n.At.N)
		}
		for i := len(p.Nodes); i < cap(p.Nodes); i++ {
			p.Nodes[:cap(p.Nodes)][i] = api.Node{At: api.Int{N: make(api.Nat, 1)}}
			each(p.Nodes[:cap(p.Nodes)][i].At.N)
		}
	}
	for i, part := range all {
		*part = uint32(i)
	}
	for i, part := range all {
		if *part != uint32(i) {
			t.Errorf("part %d shares memory", i)
		}
	}
}

func TestPutKeepsNothing(t *testing.T) { // R4
	r := rand.New(rand.NewSource(157))
	m := model(t, "least x; vars x; end")
	for range 2000 {
		p := roomyProof(anyProof(r))
		ahead := flat(p)
		b, e := deeds.Put(p)
		if _, at := deeds.Line(m, p); at != api.OK && at != api.ErrArg {
			t.Error(at)
		}
		if e != api.OK || !slices.Equal(flat(p), ahead) {
			t.Fatalf("Put changed %.300s", told(p))
		}
		again, _ := deeds.Put(p)
		was := slices.Clone(b)
		for i := range again[:cap(again)] {
			again[:cap(again)][i] ^= 255
		}
		if stamp(t, p); !bytes.Equal(b, was) {
			t.Errorf("what Put answered is another one now")
		}
	}
}

func TestGetKeepsNothing(t *testing.T) { // R4
	r := rand.New(rand.NewSource(158))
	for range 2000 {
		want := anyProof(r)
		b := append(bytesOf(want), 5, 6, 7, 8)
		was := slices.Clone(b)
		b = b[:len(b)-4]
		p, e := deeds.Get(b)
		again, _ := deeds.Get(b)
		if e != api.OK || !bytes.Equal(b[:len(was)], was) {
			t.Fatalf("Get changed %v", b)
		}
		for i := range b[:cap(b)] {
			b[:cap(b)][i] = 255
		}
		if told(p) != told(want) || told(again) != told(want) {
			t.Errorf("Get kept %v", was)
		}
		stamp(t, p, again)
	}
}
