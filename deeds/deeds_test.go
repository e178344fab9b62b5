package deeds_test

import (
	"encoding/binary"
	"math"
	"math/rand"
	"runtime"
	"slices"
	"testing"
	"time"

	"assayer/api"
	"assayer/deeds"
	"assayer/ints"
	"assayer/models"
	"assayer/norms"
	"assayer/proofs"
	"assayer/rats"
)

// known is a model, and a proof that 2 is its best.
func known(t *testing.T) (api.Model, api.Proof) {
	t.Helper()
	m, _, e := models.Parse("most x; vars x whole; rows x <= 5/2; end")
	if e != api.OK {
		t.Fatal(e)
	}
	return m, api.Proof{Verdict: api.VeBest, Point: list(t, "2"), Value: rat(t, "2"), Nodes: []api.Node{
		{Var: 0, At: ints.Of(2), Less: 1, More: 2},
		{Var: -1, Mult: list(t, "0 0 1")},
		{Var: -1, Mult: list(t, "0 1 1")},
	}}
}

func TestExamples(t *testing.T) { // P15.1
	m, p := known(t)
	wantPut(t, p)
	b, _ := deeds.Put(p)
	if want := []byte{1, 1, 1, 1, 2, 2, 1, 1, 2, 2, 0, 3, 1, 2, 2, 2, 3, 0, 0, 0, 1, 1, 3, 1, 1, 0, 1, 1, 0, 1, 1, 2, 1, 0, 0, 1, 1, 3, 1, 1, 0, 1, 1, 2, 1, 1, 1, 2, 1}; string(b) != string(want) {
		t.Errorf("Put: %v, but the form is %v", b, want)
	}
	n, e := norms.Of(m)
	if got, _ := deeds.Get(b); e != api.OK || !proofs.Check(n, got) {
		t.Error("what came back does not hold")
	}
	wantPut(t, api.Proof{Verdict: api.VeEmpty, Nodes: []api.Node{{Var: -1, Mult: list(t, "1/2 1/3")}}})
	wantPut(t, api.Proof{Verdict: api.VeEndless, Point: list(t, "1 -1/2"), Ray: list(t, "0 1")})
}

func TestEdges(t *testing.T) { // P15.1
	wantPut(t, api.Proof{})
	for v := range 256 {
		wantPut(t, api.Proof{Verdict: api.Verdict(v)})
		wantPut(t, api.Proof{Verdict: api.Verdict(v), Point: list(t, "1/2"), Value: rat(t, "3"), Ray: list(t, "0"), Nodes: make([]api.Node, 1)})
	}
	for _, s := range []string{"?", "0", "? 0", "0 ?", "1", "-1", "127", "128", "-128", "1/127", "1/128", "4294967295", "4294967296", "-4294967297/4294967295", "1/18446744073709551616", "79228162514264337593543950336/79228162514264337593543950335"} {
		l := list(t, s)
		wantPut(t, api.Proof{Point: l})
		wantPut(t, api.Proof{Value: l[0]})
		wantPut(t, api.Proof{Ray: l})
		wantPut(t, api.Proof{Nodes: []api.Node{{Mult: l}}})
		wantPut(t, api.Proof{Nodes: []api.Node{{Var: -1}, {At: l[0].Num, Mult: l}, {At: l[len(l)-1].Num}}})
	}
	for _, at := range []int{-1, 0, 1, 2, 126, 127, 128, 255, 256, 16382, 16383, 16384, 65535, 65536, math.MaxInt32 - 1, math.MaxInt32} {
		wantPut(t, api.Proof{Nodes: []api.Node{{Var: at}, {Less: at}, {More: at}, {Var: at, Less: at, More: at}}})
	}
	for _, n := range []int{1, 2, 127, 128, 300, 6000, 16384} {
		long := slices.Repeat(list(t, "0 ? 1/2"), n)[:n]
		wantPut(t, api.Proof{Point: long})
		wantPut(t, api.Proof{Ray: long, Nodes: []api.Node{{Mult: long}, {}}})
		great := api.Nat(slices.Repeat([]uint32{math.MaxUint32, 0, 1}, n))
		wantPut(t, api.Proof{Value: api.Rat{Num: api.Int{Neg: true, N: great}, Den: api.Nat{1}}})
		wantPut(t, api.Proof{Nodes: []api.Node{{At: api.Int{Neg: true, N: great}}}})
	}
	wantPut(t, api.Proof{Value: api.Rat{Num: api.Int{N: api.Nat{}}, Den: api.Nat{}}, Point: []api.Rat{}, Nodes: []api.Node{}})
}

func TestAnyProofs(t *testing.T) { // P15.1
	r := rand.New(rand.NewSource(151))
	for range 30000 {
		wantPut(t, anyProof(r))
	}
}

// spoil makes something of a proof such that it can't be put, where it has what is drawn.
func spoil(r *rand.Rand, p *api.Proof) {
	bad, badInts := mayNot(), mayNotInts()
	one := bad[r.Intn(len(bad))]
	far := []int{-2, math.MaxInt32 + 1, math.MinInt, math.MaxInt, math.MinInt32, math.MaxUint32}[r.Intn(6)]
	put := func(l []api.Rat) {
		if len(l) > 0 {
			l[r.Intn(len(l))] = one
		}
	}
	what := r.Intn(8)
	switch what {
	case 0:
		p.Value = one
	case 1:
		put(p.Point)
	case 2:
		put(p.Ray)
	}
	if len(p.Nodes) == 0 {
		return
	}
	n := &p.Nodes[r.Intn(len(p.Nodes))]
	switch what {
	case 3:
		put(n.Mult)
	case 4:
		n.At = badInts[r.Intn(len(badInts))]
	case 5:
		n.Var = far
	case 6:
		n.Less = far
	case 7:
		n.More = far
	}
}

func TestAnyWrong(t *testing.T) { // P15.1
	r := rand.New(rand.NewSource(152))
	put, refused := 0, 0
	for range 30000 {
		p := anyProof(r)
		for range 1 + r.Intn(2) {
			spoil(r, &p)
		}
		wantPut(t, p)
		if _, e := deeds.Put(p); e == api.OK {
			put++
			continue
		}
		refused++
		if tellable(p) {
			wantNone(t, "it can't be put", bytesOf(p))
		}
	}
	if put < 1000 || refused < 1000 {
		t.Errorf("%d could be put, %d not", put, refused)
	}
}

func TestWrongPut(t *testing.T) { // P15.1
	want := func(what string, p api.Proof) {
		t.Helper()
		if b, e := deeds.Put(p); e != api.ErrArg || len(b) > 0 {
			t.Errorf("%s: Put(%.300s): %v %d", what, told(p), b, e)
		}
		if tellable(p) {
			wantNone(t, what, bytesOf(p))
		}
	}
	one := rats.Of(1)
	for _, a := range mayNot() {
		want("a value", api.Proof{Value: a})
		for _, l := range [][]api.Rat{{a}, {a, one}, {one, a}, {{}, a, {}}} {
			want("a point", api.Proof{Point: l})
			want("a ray", api.Proof{Verdict: api.VeEndless, Ray: l})
			want("a node", api.Proof{Nodes: []api.Node{{Mult: l}}})
			want("a last node", api.Proof{Nodes: []api.Node{{}, {Var: -1}, {Mult: l}}})
		}
	}
	for _, a := range mayNotInts() {
		want("a first At", api.Proof{Nodes: []api.Node{{At: a}, {}}})
		want("a last At", api.Proof{Nodes: []api.Node{{}, {At: a}}})
	}
	for _, far := range []int{-2, -3, math.MinInt32, math.MinInt, math.MaxInt32 + 1, math.MaxInt32 + 2, math.MaxUint32, math.MaxUint32 + 1, math.MaxInt} {
		for _, n := range []api.Node{{Var: far}, {Less: far}, {More: far}} {
			want("a place", api.Proof{Nodes: []api.Node{n}})
			want("a first place", api.Proof{Nodes: []api.Node{n, {}}})
			want("a last place", api.Proof{Nodes: []api.Node{{}, n}})
		}
	}
}

func TestMostNodes(t *testing.T) { // P15.1
	m, known := known(t)
	for _, n := range []int{api.MaxNodes - 1, api.MaxNodes} {
		wantPut(t, api.Proof{Nodes: make([]api.Node, n)})
		wantPut(t, api.Proof{Verdict: api.VeBest, Point: known.Point, Value: known.Value, Nodes: slices.Repeat(known.Nodes, n)[:n]})
	}
	for _, n := range []int{api.MaxNodes + 1, api.MaxNodes + 2, 2 * api.MaxNodes, 1 << 17} {
		p := api.Proof{Nodes: make([]api.Node, n)}
		if b, e := deeds.Put(p); e != api.ErrLimit || len(b) > 0 {
			t.Errorf("%d nodes: %d %d", n, len(b), e)
		}
		wantNone(t, "too many nodes", bytesOf(p))
		p.Nodes[n-1].Less = -2
		wantPut(t, p)
		p.Nodes[n-1].Less, p.Value = 0, mayNot()[0]
		wantPut(t, p)
	}
	if s, e := deeds.Line(m, api.Proof{Verdict: api.VeEmpty, Nodes: make([]api.Node, api.MaxNodes+1)}); e != api.OK || s != "empty" {
		t.Errorf("Line: %q %d", s, e)
	}
}

// TestCut: bytes of which some are missing, or that have others behind them, are no proof's.
func TestCut(t *testing.T) { // P15.1
	r := rand.New(rand.NewSource(153))
	_, p := known(t)
	for range 500 {
		b, _ := deeds.Put(p)
		for n := range b {
			wantNone(t, "cut", b[:n])
			wantOneWay(t, b[n+1:])
		}
		for _, c := range []byte{0, 1, 127, 128, 255} {
			wantNone(t, "one more", append(slices.Clone(b), c))
		}
		wantNone(t, "twice", slices.Concat(b, b))
		wantNone(t, "another one behind it", slices.Concat(b, bytesOf(api.Proof{})))
		p = anyProof(r)
	}
	wantNone(t, "nothing", nil)
	wantNone(t, "nothing", []byte{})
}

// TestOtherBytes: whatever bytes are a proof's are just those that Put makes of it.
func TestOtherBytes(t *testing.T) { // P15.1
	r := rand.New(rand.NewSource(154))
	_, p := known(t)
	good := 0
	for range 25 {
		b, _ := deeds.Put(p)
		for i, old := range b {
			for c := range 256 {
				if b[i] = byte(c); wantOneWay(t, b) && b[i] != old {
					good++
				}
			}
			b[i] = old
			for _, c := range []byte{0, 1, 2, 127, 128, 129, 255} {
				wantOneWay(t, slices.Insert(slices.Clone(b), i, c))
			}
			wantOneWay(t, slices.Delete(slices.Clone(b), i, i+1))
		}
		p = anyProof(r)
	}
	if good < 1000 {
		t.Errorf("only %d others were proofs", good)
	}
}

func TestAllShort(t *testing.T) { // P15.1
	edges := []byte{0, 1, 2, 3, 4, 127, 128, 129, 255}
	good := 0
	var grow func(b []byte, size int)
	grow = func(b []byte, size int) {
		if wantOneWay(t, b) {
			good++
		}
		for _, c := range edges {
			if size > 0 {
				grow(append(slices.Clone(b), c), size-1)
			}
		}
	}
	grow(nil, 6)
	for a := range 256 {
		for b := range 256 {
			wantNone(t, "two bytes", []byte{byte(a), byte(b)})
		}
	}
	if good < 10 {
		t.Errorf("only %d were proofs", good)
	}
}

func TestAnyBytes(t *testing.T) { // P15.1, R1
	r := rand.New(rand.NewSource(155))
	for range 100000 {
		b := make([]byte, r.Intn(40))
		r.Read(b)
		for i := range b {
			if r.Intn(3) > 0 {
				b[i] %= 4
			}
		}
		wantOneWay(t, b)
	}
}

// TestNumbers: a number that has needless bytes, or is too great for what it tells, is no proof's.
func TestNumbers(t *testing.T) { // P15.1
	number := func(n uint64) []byte { return binary.AppendUvarint(nil, n) }
	node := []byte{0, 0, 0, 0, 1}
	wantProof(t, slices.Concat(number(255), []byte{0, 0, 0, 0}), api.Proof{Verdict: 255})
	wantProof(t, slices.Concat(node, number(1<<31), []byte{0, 0, 0, 0}), api.Proof{Nodes: []api.Node{{Var: math.MaxInt32, Less: -1, More: -1}}})
	wantProof(t, slices.Concat([]byte{0, 0, 1}, number(1<<32-1), []byte{2, 1, 0, 0}), api.Proof{Value: api.Rat{Num: api.Int{N: api.Nat{1}}, Den: api.Nat{math.MaxUint32}}})
	for _, n := range []uint64{256, 257, 511, 512, 1 << 16, 1 << 32, 1 << 40, math.MaxUint64} {
		wantNone(t, "a verdict", slices.Concat(number(n), []byte{0, 0, 0, 0}))
	}
	for _, n := range []uint64{1<<31 + 1, 1<<31 + 2, 1<<32 - 1, 1 << 32, 1<<32 + 1, 1 << 35, 1 << 63, math.MaxUint64} {
		for at := range 3 {
			l := [][]byte{{1}, {0}, {1}, {1}, {0}}
			l[[]int{0, 2, 3}[at]] = number(n)
			wantNone(t, "a place", slices.Concat(node, slices.Concat(l...)))
		}
	}
	for _, n := range []uint64{1 << 32, 1<<32 + 1, 1<<35 - 1, 1 << 35, 1<<40 + 1, math.MaxUint64} {
		wantNone(t, "a part", slices.Concat([]byte{0, 0, 1}, number(n), []byte{2, 1, 0, 0}))
		wantNone(t, "a part of At", slices.Concat(node, []byte{1, 2}, number(n), []byte{1, 1, 0}))
	}
	for _, n := range []uint64{0, 1, 2, 127} {
		for size := range 12 {
			// The same number, with so many bytes that tell nothing.
			long := append([]byte{byte(n) | 128}, slices.Repeat([]byte{128}, size)...)
			wantNone(t, "needless bytes", slices.Concat(append(long, 0), []byte{0, 0, 0, 0}))
			wantNone(t, "bits far above", slices.Concat(append(long[:size+1:size+1], 4), []byte{0, 0, 0, 0, 0}))
		}
	}
	wantNone(t, "no end", slices.Repeat([]byte{128}, 1<<20))
	wantNone(t, "no end", slices.Repeat([]byte{255}, 1<<20))
}

// TestMuchOfLittle: bytes that tell of much, but have little, take little memory.
func TestMuchOfLittle(t *testing.T) { // R1
	much := binary.AppendUvarint(nil, math.MaxInt32)
	for _, b := range [][]byte{
		slices.Concat([]byte{1}, much, make([]byte, 100)),                    // a point
		slices.Concat([]byte{1, 0}, much, slices.Repeat([]byte{1}, 100)),     // a number's parts
		slices.Concat([]byte{1, 0, 1, 1}, much, slices.Repeat([]byte{1}, 9)), // a whole number's
		slices.Concat([]byte{1, 0, 0}, much, make([]byte, 100)),              // a ray
		slices.Concat([]byte{1, 0, 0, 0}, much, make([]byte, 100)),           // nodes
		slices.Concat([]byte{1, 0, 0, 0, 1, 0, 0, 0, 0}, much, make([]byte, 100)),
		slices.Concat([]byte{1}, slices.Repeat(much, 100)),
	} {
		var ahead, behind runtime.MemStats
		runtime.ReadMemStats(&ahead)
		wantNone(t, "too little", b)
		runtime.ReadMemStats(&behind)
		if took := behind.TotalAlloc - ahead.TotalAlloc; took > 1<<18 {
			t.Errorf("Get(%.20v): %d bytes of memory", b, took)
		}
	}
}

// TestGreat: a proof of all nodes, each with as many fractions as a norm can have rows and splits, is put and got in time.
func TestGreat(t *testing.T) { // R1
	p := api.Proof{Verdict: api.VeBest, Nodes: make([]api.Node, api.MaxNodes)}
	for i := range p.Nodes {
		p.Nodes[i] = api.Node{Var: -1, Mult: slices.Repeat(list(t, "1/3 0 22/7 5 0"), 41)}
	}
	began := time.Now()
	b, e := deeds.Put(p)
	if e != api.OK || string(b) != string(bytesOf(p)) {
		t.Fatal(len(b), e)
	}
	got, e := deeds.Get(b)
	if e != api.OK || len(got.Nodes) != len(p.Nodes) {
		t.Fatal(len(got.Nodes), e)
	}
	if took := time.Since(began); took > 20*time.Second {
		t.Errorf("it took %v", took)
	}
	again, _ := deeds.Put(got)
	if string(again) != string(b) {
		t.Error("it came back otherwise")
	}
}
