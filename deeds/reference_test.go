package deeds_test

import (
	"encoding/binary"
	"fmt"
	"math"
	"math/big"
	"math/rand"
	"slices"
	"strings"
	"testing"

	"assayer/api"
	"assayer/deeds"
	"assayer/rats"
)

// What the chapter says, and the form that the package tells, once more, by other libraries: what the package answers is held against it.

// list is the fractions of texts, with blanks between them; a ? is the zero struct.
func list(t *testing.T, s string) []api.Rat {
	t.Helper()
	var l []api.Rat
	for _, w := range strings.Fields(s) {
		a, e := rats.Parse(w)
		if e != api.OK && w != "?" {
			t.Fatalf("%q is no fraction's text: %d", w, e)
		}
		l = append(l, a)
	}
	return l
}

// rat is the fraction of a text.
func rat(t *testing.T, s string) api.Rat {
	t.Helper()
	return list(t, s)[0]
}

// told is all of a proof; an empty list is told as one that is nil.
func told(p api.Proof) string { return fmt.Sprint(p) }

// bytesOf is a proof in the package's form, whether it may be or not.
func bytesOf(p api.Proof) []byte {
	b := binary.AppendUvarint(nil, uint64(p.Verdict))
	b = addRats(b, p.Point)
	b = addRat(b, p.Value)
	b = addRats(b, p.Ray)
	b = binary.AppendUvarint(b, uint64(len(p.Nodes)))
	for _, n := range p.Nodes {
		b = binary.AppendUvarint(b, uint64(n.Var+1))
		b = addInt(b, n.At)
		b = binary.AppendUvarint(b, uint64(n.Less+1))
		b = binary.AppendUvarint(b, uint64(n.More+1))
		b = addRats(b, n.Mult)
	}
	return b
}

func addRats(b []byte, l []api.Rat) []byte {
	b = binary.AppendUvarint(b, uint64(len(l)))
	for _, a := range l {
		b = addRat(b, a)
	}
	return b
}

func addRat(b []byte, a api.Rat) []byte {
	b = addParts(binary.AppendUvarint(b, uint64(len(a.Den))), a.Den)
	if len(a.Den) == 0 {
		return b
	}
	return addInt(b, a.Num)
}

func addInt(b []byte, a api.Int) []byte {
	head := uint64(2 * len(a.N))
	if a.Neg {
		head++
	}
	return addParts(binary.AppendUvarint(b, head), a.N)
}

func addParts(b []byte, n api.Nat) []byte {
	for _, p := range n {
		b = binary.AppendUvarint(b, uint64(p))
	}
	return b
}

// tellable tells whether the form can tell all of a proof: of a fraction without Den it tells nothing more.
func tellable(p api.Proof) bool {
	for _, l := range lists(p) {
		for _, a := range l {
			if len(a.Den) == 0 && (len(a.Num.N) > 0 || a.Num.Neg) {
				return false
			}
		}
	}
	return true
}

// lists are all fractions of a proof.
func lists(p api.Proof) [][]api.Rat {
	out := [][]api.Rat{p.Point, {p.Value}, p.Ray}
	for _, n := range p.Nodes {
		out = append(out, n.Mult)
	}
	return out
}

// refPut is what Put must answer.
func refPut(p api.Proof) ([]byte, api.Errno) {
	for _, l := range lists(p) {
		if slices.ContainsFunc(l, func(a api.Rat) bool { return !refRat(a) }) {
			return nil, api.ErrArg
		}
	}
	for _, n := range p.Nodes {
		for _, at := range []int{n.Var, n.Less, n.More} {
			if at < -1 || at > math.MaxInt32 {
				return nil, api.ErrArg
			}
		}
		if !refInt(n.At) {
			return nil, api.ErrArg
		}
	}
	if len(p.Nodes) > api.MaxNodes {
		return nil, api.ErrLimit
	}
	return bytesOf(p), api.OK
}

// refInt tells whether a whole number may be.
func refInt(a api.Int) bool {
	return !(a.Neg && len(a.N) == 0) && (len(a.N) == 0 || a.N[len(a.N)-1] != 0)
}

// refRat tells whether a fraction may be, or is the zero struct.
func refRat(a api.Rat) bool {
	if len(a.Den) == 0 {
		return len(a.Num.N) == 0 && !a.Num.Neg
	}
	if !refInt(a.Num) || !refInt(api.Int{N: a.Den}) {
		return false
	}
	return new(big.Int).GCD(nil, nil, bigNat(a.Num.N), bigNat(a.Den)).Cmp(big.NewInt(1)) == 0
}

func bigNat(a api.Nat) *big.Int {
	n := new(big.Int)
	for _, p := range slices.Backward(a) {
		n.Or(n.Lsh(n, 32), big.NewInt(int64(p)))
	}
	return n
}

// ratOf is a fraction of another library's.
func ratOf(q *big.Rat) api.Rat {
	nat := func(n *big.Int) (a api.Nat) {
		for n = new(big.Int).Abs(n); n.Sign() > 0; n.Rsh(n, 32) {
			a = append(a, uint32(new(big.Int).And(n, big.NewInt(math.MaxUint32)).Uint64()))
		}
		return a
	}
	return api.Rat{Num: api.Int{Neg: q.Sign() < 0, N: nat(q.Num())}, Den: nat(q.Denom())}
}

// mayNot are fractions that neither may be nor are the zero struct.
func mayNot() []api.Rat {
	one, two := api.Nat{1}, api.Nat{2}
	return []api.Rat{
		{Num: api.Int{Neg: true}}, {Num: api.Int{N: one}}, {Num: api.Int{N: api.Nat{0}}}, {Den: api.Nat{0}}, {Num: api.Int{N: one}, Den: api.Nat{0}}, {Den: two},
		{Num: api.Int{N: two}, Den: api.Nat{4}}, {Num: api.Int{Neg: true, N: api.Nat{3}}, Den: api.Nat{3}}, {Num: api.Int{N: api.Nat{0, 6}}, Den: api.Nat{0, 0, 1}},
		{Num: api.Int{Neg: true}, Den: one}, {Num: api.Int{N: api.Nat{0}}, Den: one}, {Num: api.Int{N: api.Nat{1, 0}}, Den: one}, {Num: api.Int{N: one}, Den: api.Nat{2, 0}},
	}
}

// mayNotInts are whole numbers that may not be.
func mayNotInts() []api.Int {
	return []api.Int{{Neg: true}, {N: api.Nat{0}}, {Neg: true, N: api.Nat{0}}, {N: api.Nat{5, 0}}, {Neg: true, N: api.Nat{0, 1, 0}}}
}

// anyRat is a fraction that may be, or the zero struct; of any size that is likely, and of those at which bytes become more.
func anyRat(r *rand.Rand) api.Rat {
	switch r.Intn(8) {
	case 0:
		return api.Rat{}
	case 1:
		return rats.Of(0)
	case 2, 3, 4:
		return ratOf(big.NewRat(r.Int63n(9)-4, 1+r.Int63n(4)))
	}
	return ratOf(new(big.Rat).SetFrac(bigAny(r, false), bigAny(r, true)))
}

// anyInt is a whole number that may be.
func anyInt(r *rand.Rand) api.Int {
	if r.Intn(3) == 0 {
		return api.Int{}
	}
	return ratOf(new(big.Rat).SetInt(bigAny(r, false))).Num
}

// bigAny is a whole number of up to 5 parts, most of which have bits on one of their sides alone.
func bigAny(r *rand.Rand, above bool) *big.Int {
	n := new(big.Int)
	for range r.Intn(6) {
		part := r.Uint32() >> r.Intn(33)
		if r.Intn(4) == 0 {
			part = ^part
		}
		n.Or(n.Lsh(n, 32), big.NewInt(int64(part)))
	}
	switch {
	case above:
		return n.Add(n, big.NewInt(1))
	case r.Intn(2) == 0:
		return n.Neg(n)
	}
	return n
}

// anyPlace is a Var, Less or More that may be; around numbers at which bytes become more, and at both ends.
func anyPlace(r *rand.Rand) int {
	l := []int{-1, 0, 1, 126, 127, 128, 16382, 16383, 1<<21 - 2, 1<<21 - 1, 1<<28 - 2, 1<<28 - 1, math.MaxInt32 - 1, math.MaxInt32}
	if r.Intn(2) == 0 {
		return l[r.Intn(len(l))]
	}
	return r.Intn(math.MaxInt32)
}

// anyProof is one that can be put; whether it shows anything is nothing to bytes.
func anyProof(r *rand.Rand) (p api.Proof) {
	some := func() (l []api.Rat) {
		for range r.Intn(5) {
			l = append(l, anyRat(r))
		}
		return l
	}
	p = api.Proof{Verdict: api.Verdict(r.Intn(5)), Point: some(), Value: anyRat(r), Ray: some()}
	for range r.Intn(4) {
		p.Nodes = append(p.Nodes, api.Node{Var: anyPlace(r), At: anyInt(r), Less: anyPlace(r), More: anyPlace(r), Mult: some()})
	}
	return p
}

// wantPut holds Put, and Get of what it answers, against the reference.
func wantPut(t *testing.T, p api.Proof) {
	t.Helper()
	want, refused := refPut(p)
	b, e := deeds.Put(p)
	if e != refused || string(b) != string(want) {
		t.Errorf("Put(%.300s): %.99v %d, but it is %.99v %d", told(p), b, e, want, refused)
	}
	if e == api.OK {
		wantProof(t, b, p)
	}
}

// wantProof holds Get of bytes against the proof that they are.
func wantProof(t *testing.T, b []byte, want api.Proof) {
	t.Helper()
	if p, e := deeds.Get(b); e != api.OK || told(p) != told(want) {
		t.Errorf("Get(%.99v): %.300s %d, but it is %.300s", b, told(p), e, told(want))
	}
}

// wantNone asks that bytes are no proof's.
func wantNone(t *testing.T, what string, b []byte) {
	t.Helper()
	if p, e := deeds.Get(b); e != api.ErrForm || told(p) != told(api.Proof{}) {
		t.Errorf("%s: Get(%.99v): %.300s %d", what, b, told(p), e)
	}
}

// wantOneWay asks that bytes are no proof's, or just those that Put makes of it; and answers whether they are a proof's.
func wantOneWay(t *testing.T, b []byte) bool {
	t.Helper()
	p, e := deeds.Get(b)
	if e != api.OK {
		if e != api.ErrForm || p.Verdict != 0 || len(p.Point)+len(p.Ray)+len(p.Nodes)+len(p.Value.Den)+len(p.Value.Num.N) > 0 {
			t.Errorf("Get(%.99v): %.300s %d", b, told(p), e)
		}
		return false
	}
	if again, e := deeds.Put(p); e != api.OK || string(again) != string(b) {
		t.Errorf("Get(%.99v): %.300s, of which Put is %.99v %d", b, told(p), again, e)
	}
	return true
}
