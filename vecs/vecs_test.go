package vecs_test

import (
	"math"
	"math/big"
	"math/rand"
	"slices"
	"testing"

	"assayer/api"
	"assayer/ints"
	"assayer/rats"
	"assayer/vecs"
)

const (
	top       = 1<<32 - 1
	mostZeros = 65536
)

// rat is a fraction as it stands here, in lowest terms or not.
func rat(num int64, den ...uint32) api.Rat { return api.Rat{Num: ints.Of(num), Den: den} }

// mayNot are fractions that may not be.
func mayNot() []api.Rat {
	return []api.Rat{
		{}, {Num: ints.Of(5)}, {Num: ints.Of(1), Den: api.Nat{}}, rat(1, 0), rat(1, 1, 0), rat(5, 7, 3, 0), rat(0, 0),
		rat(2, 4), rat(-2, 4), rat(4, 2), rat(5, 5), rat(0, 5), rat(6, 0, 1),
		{Num: api.Int{Neg: true}, Den: api.Nat{1}}, {Num: api.Int{N: api.Nat{0}}, Den: api.Nat{1}}, {Num: api.Int{N: api.Nat{3, 0}}, Den: api.Nat{5}}, {Num: api.Int{Neg: true, N: api.Nat{3, 0}}, Den: api.Nat{5}},
	}
}

// row is the fractions that another library reads in texts.
func row(t *testing.T, l ...string) []api.Rat {
	t.Helper()
	var out []api.Rat
	for _, s := range l {
		q, ok := new(big.Rat).SetString(s)
		if !ok {
			t.Fatalf("%q is no fraction's text", s)
		}
		out = append(out, ratOf(q))
	}
	return out
}

func ratOf(q *big.Rat) api.Rat {
	return api.Rat{Num: api.Int{Neg: q.Sign() < 0, N: natOf(q.Num())}, Den: natOf(q.Denom())}
}

// natOf is how far from 0 the number is.
func natOf(n *big.Int) api.Nat {
	var a api.Nat
	for n = new(big.Int).Abs(n); n.Sign() > 0; n.Rsh(n, 32) {
		a = append(a, uint32(new(big.Int).And(n, big.NewInt(top)).Uint64()))
	}
	return a
}

// bigOf is a fraction that may be, as another library has it.
func bigOf(a api.Rat) *big.Rat {
	num, den := bigNat(a.Num.N), bigNat(a.Den)
	if a.Num.Neg {
		num.Neg(num)
	}
	return new(big.Rat).SetFrac(num, den)
}

// bigOrZero is likewise, of one that may not be 0.
func bigOrZero(a api.Rat) *big.Rat {
	if !rats.Check(a) {
		return new(big.Rat)
	}
	return bigOf(a)
}

func bigNat(a api.Nat) *big.Int {
	n := new(big.Int)
	for _, p := range slices.Backward(a) {
		n.Or(n.Lsh(n, 32), big.NewInt(int64(p)))
	}
	return n
}

// rows are lists of which each two of the same group are as long: of each length ordinary ones, edges, and ones of many parts; always the same.
func rows(t *testing.T) [][][]api.Rat {
	t.Helper()
	groups := [][][]api.Rat{
		{nil, {}},
		{row(t, "0"), row(t, "1"), row(t, "-7/2"), row(t, "4294967296/4294967297")},
		{row(t, "1", "2"), row(t, "3", "4"), row(t, "2", "1"), row(t, "-1/2", "1/2"), row(t, "0", "0")},
		{row(t, "1", "1/2", "1/3"), row(t, "-1", "2", "0"), row(t, "5/6", "-7/12", "25/2"), row(t, "0", "0", "0"), row(t, "18446744073709551616", "-1/18446744073709551616", "18446744073709551615/18446744073709551616")},
	}
	r := rand.New(rand.NewSource(4))
	for _, n := range []int{4, 5, 7, 8, 9, 33} {
		var group [][]api.Rat
		for range 4 {
			group = append(group, anyRow(r, n))
		}
		groups = append(groups, group)
	}
	return groups
}

// anyRow is so many fractions, of one bit up to some parts, some of them 0.
func anyRow(r *rand.Rand, n int) []api.Rat {
	var l []api.Rat
	for range n {
		most := new(big.Int).Lsh(big.NewInt(1), uint(1+r.Intn(100)))
		num, den := new(big.Int).Rand(r, most), new(big.Int).Rand(r, most)
		q := new(big.Rat).SetFrac(num, den.Add(den, big.NewInt(1)))
		if r.Intn(2) == 0 {
			q.Neg(q)
		}
		l = append(l, ratOf(q))
	}
	return l
}

// want complains, if a may not be, or is another fraction.
func want(t *testing.T, what string, a api.Rat, q *big.Rat) {
	t.Helper()
	if !rats.Check(a) || bigOf(a).Cmp(q) != 0 {
		t.Errorf("%s: %v, but it is %s", what, a, q)
	}
}

// wantRow complains, if one of them may not be, or they are others.
func wantRow(t *testing.T, what string, l []api.Rat, q []*big.Rat) {
	t.Helper()
	if len(l) != len(q) {
		t.Errorf("%s: %v, but there are %d", what, l, len(q))
		return
	}
	for i, a := range l {
		want(t, what, a, q[i])
	}
}

// wantText complains, if the row is not that of these texts.
func wantText(t *testing.T, what string, l []api.Rat, texts ...string) {
	t.Helper()
	var q []*big.Rat
	for _, a := range row(t, texts...) {
		q = append(q, bigOf(a))
	}
	wantRow(t, what, l, q)
}

func isNone(a api.Rat) bool { return !a.Num.Neg && len(a.Num.N) == 0 && len(a.Den) == 0 }

func same(a, b api.Rat) bool {
	return a.Num.Neg == b.Num.Neg && slices.Equal(a.Num.N, b.Num.N) && slices.Equal(a.Den, b.Den)
}

// spoiled are lists like this one, in each of which one fraction may not be.
func spoiled(l []api.Rat) [][]api.Rat {
	var out [][]api.Rat
	for i, odd := range mayNot() {
		for _, at := range []int{0, i % max(len(l), 1), len(l) - 1} {
			if at >= 0 && len(l) > 0 {
				bad := slices.Clone(l)
				bad[at] = odd
				out = append(out, bad)
			}
		}
	}
	return out
}

func TestCheck(t *testing.T) { // P4.1
	for _, group := range rows(t) {
		for _, l := range group {
			if !vecs.Check(l) {
				t.Errorf("%v may be", l)
			}
			for _, bad := range spoiled(l) {
				if vecs.Check(bad) {
					t.Errorf("%v may not be", bad)
				}
			}
		}
	}
	if vecs.Check(mayNot()) {
		t.Error("none of them may be")
	}
}

func TestDot(t *testing.T) { // P4.2
	for _, group := range rows(t) {
		for _, a := range group {
			for _, b := range group {
				sum := new(big.Rat)
				for i := range a {
					sum.Add(sum, new(big.Rat).Mul(bigOf(a[i]), bigOf(b[i])))
				}
				got, e := vecs.Dot(a, b)
				want(t, "Dot", got, sum)
				if e != api.OK {
					t.Errorf("Dot(%v, %v): %d", a, b, e)
				}
			}
		}
	}
	got, e := vecs.Dot(row(t, "1", "2"), row(t, "3", "4"))
	if want(t, "Dot", got, big.NewRat(11, 1)); e != api.OK {
		t.Errorf("%d", e)
	}
	got, e = vecs.Dot(nil, []api.Rat{})
	if want(t, "Dot, of none", got, new(big.Rat)); e != api.OK {
		t.Errorf("%d", e)
	}
}

func TestDotWrong(t *testing.T) { // P4.2
	refused := func(a, b []api.Rat) {
		t.Helper()
		if got, e := vecs.Dot(a, b); !isNone(got) || e != api.ErrArg {
			t.Errorf("Dot(%v, %v): %v %d", a, b, got, e)
		}
	}
	eachWrongPair(t, refused)
	refused([]api.Rat{rat(1, 0)}, row(t, "1"))
	// A product of 0 hides none that may not be.
	refused([]api.Rat{rat(2, 4)}, row(t, "0"))
}

// eachWrongPair hands on pairs of lists: of other lengths, and some in which one fraction may not be.
func eachWrongPair(t *testing.T, refused func(a, b []api.Rat)) {
	t.Helper()
	groups := rows(t)
	for i, group := range groups {
		for _, a := range group {
			for _, other := range append(slices.Clone(groups[:i]), groups[i+1:]...) {
				refused(a, other[0])
			}
			for _, bad := range spoiled(a) {
				refused(bad, a)
				refused(a, bad)
				refused(bad, bad)
				refused(bad, nil)
				refused(nil, bad)
			}
		}
	}
	l := row(t, "1", "2", "3")
	refused(l, l[:2])
	refused(l[:2], l)
	refused(l, nil)
	refused(nil, l)
	refused(row(t, "0"), nil)
}

func TestScale(t *testing.T) { // P4.3
	factors := append(row(t, "0", "1", "-1", "-2", "1/2", "3/7", "-18446744073709551616/3"), mayNot()...)
	for _, group := range rows(t) {
		for _, l := range group {
			// Of those that may not be each one is 0, the others are not touched by it.
			for _, a := range append(spoiled(l), l) {
				for _, by := range factors {
					var q []*big.Rat
					for _, x := range a {
						q = append(q, new(big.Rat).Mul(bigOrZero(x), bigOrZero(by)))
					}
					wantRow(t, "Scale", vecs.Scale(a, by), q)
				}
			}
		}
	}
	wantText(t, "Scale", vecs.Scale(row(t, "1", "1/2"), rats.Of(-2)), "-2", "-1")
	wantText(t, "Scale, by one that may not be", vecs.Scale(row(t, "1", "1/2"), api.Rat{}), "0", "0")
	wantText(t, "Scale, of some that may not be", vecs.Scale([]api.Rat{{}, rats.Of(3), rat(2, 4)}, rats.Of(5)), "0", "15", "0")
	wantText(t, "Scale, of none", vecs.Scale(nil, rats.Of(5)))
	wantText(t, "Scale, of none, by one that may not be", vecs.Scale([]api.Rat{}, api.Rat{}))
}

func TestAdd(t *testing.T) { // P4.3
	for _, group := range rows(t) {
		for _, a := range group {
			for _, b := range group {
				for _, by := range row(t, "0", "1", "-1", "1/2", "-7/3", "4294967297/4294967296") {
					var q []*big.Rat
					for i := range a {
						q = append(q, new(big.Rat).Add(bigOf(a[i]), new(big.Rat).Mul(bigOf(b[i]), bigOf(by))))
					}
					got, e := vecs.Add(a, b, by)
					wantRow(t, "Add", got, q)
					if e != api.OK {
						t.Errorf("Add(%v, %v, %v): %d", a, b, by, e)
					}
				}
			}
		}
	}
	got, e := vecs.Add(row(t, "1", "2"), row(t, "3", "4"), row(t, "1/2")[0])
	if wantText(t, "Add", got, "5/2", "4"); e != api.OK {
		t.Errorf("%d", e)
	}
}

func TestAddWrong(t *testing.T) { // P4.3
	refused := func(a, b []api.Rat, by api.Rat) {
		t.Helper()
		if got, e := vecs.Add(a, b, by); len(got) != 0 || e != api.ErrArg {
			t.Errorf("Add(%v, %v, %v): %v %d", a, b, by, got, e)
		}
	}
	for _, by := range row(t, "0", "1", "-1/2") {
		eachWrongPair(t, func(a, b []api.Rat) {
			t.Helper()
			refused(a, b, by)
		})
	}
	for _, by := range mayNot() {
		refused(row(t, "1", "2"), row(t, "3", "4"), by)
		refused(row(t, "1", "2"), row(t, "0", "0"), by)
		// Though there is nothing that would be times it.
		refused(nil, nil, by)
		refused(row(t, "1"), nil, by)
	}
}

func TestSame(t *testing.T) { // P4.4
	for _, group := range rows(t) {
		for _, a := range group {
			for _, b := range group {
				alike := true
				for i := range a {
					alike = alike && bigOf(a[i]).Cmp(bigOf(b[i])) == 0
				}
				if vecs.Same(a, b) != alike {
					t.Errorf("Same(%v, %v): %t", a, b, !alike)
				}
			}
			for i := range a {
				other := slices.Clone(a)
				other[i] = rats.Add(other[i], row(t, "1/18446744073709551616")[0])
				if vecs.Same(a, other) || vecs.Same(other, a) || !vecs.Same(other, slices.Clone(other)) {
					t.Errorf("Same(%v, %v)", a, other)
				}
			}
		}
	}
	if !vecs.Same(row(t, "1", "2"), row(t, "1", "2")) || vecs.Same(row(t, "1"), row(t, "1", "2")) || vecs.Same(row(t, "1", "2"), row(t, "2", "1")) || vecs.Same(row(t, "1"), row(t, "-1")) {
		t.Error("Same")
	}
	eachWrongPair(t, func(a, b []api.Rat) {
		t.Helper()
		if vecs.Same(a, b) {
			t.Errorf("Same(%v, %v)", a, b)
		}
	})
	// One that may not be is not as 0.
	for _, odd := range mayNot() {
		if l := []api.Rat{odd}; vecs.Same(l, row(t, "0")) || vecs.Same(row(t, "0"), l) || vecs.Same(l, l) {
			t.Errorf("Same, of %v", odd)
		}
	}
}

func TestZero(t *testing.T) { // P4.4
	for _, n := range []int{0, 1, 2, 3, 100, mostZeros - 1, mostZeros} {
		l := vecs.Zero(n)
		if len(l) != n {
			t.Errorf("Zero(%d): %d", n, len(l))
		}
		for _, a := range l {
			if !rats.Check(a) || rats.Sign(a) != 0 {
				t.Fatalf("Zero(%d): %v", n, a)
			}
		}
	}
	for _, n := range []int{-1, -2, mostZeros + 1, 2 * mostZeros, 1 << 32, math.MinInt, math.MinInt32, math.MaxInt32, math.MaxInt} {
		if l := vecs.Zero(n); len(l) != 0 {
			t.Errorf("Zero(%d): %d", n, len(l))
		}
	}
}

func TestLaws(t *testing.T) { // P4.5
	for _, group := range rows(t) {
		for i, a := range group {
			for j, b := range group {
				c := group[(i*3+j+1)%len(group)]
				for _, by := range row(t, "0", "1", "-3/2", "18446744073709551616/7") {
					checkLaws(t, a, b, c, by)
				}
			}
		}
	}
}

func checkLaws(t *testing.T, a, b, c []api.Rat, by api.Rat) {
	t.Helper()
	law := func(what string, x, y api.Rat) {
		t.Helper()
		if !same(x, y) || !rats.Check(x) {
			t.Errorf("%s, of %v, %v, %v, by %v: %v %v", what, a, b, c, by, x, y)
		}
	}
	law("the other way about", dot(t, a, b), dot(t, b, a))
	law("over Scale", dot(t, vecs.Scale(a, by), b), rats.Mul(dot(t, a, b), by))
	law("over Scale, of the second one", dot(t, a, vecs.Scale(b, by)), rats.Mul(dot(t, a, b), by))
	law("over Add", dot(t, a, add(t, b, c, by)), rats.Add(dot(t, a, b), rats.Mul(dot(t, a, c), by)))
	law("over Add, of the first one", dot(t, add(t, b, c, by), a), rats.Add(dot(t, b, a), rats.Mul(dot(t, c, a), by)))
	law("with 0", dot(t, a, vecs.Zero(len(a))), rats.Of(0))
	if !vecs.Same(add(t, vecs.Zero(len(a)), a, by), vecs.Scale(a, by)) || !vecs.Same(add(t, a, b, rats.Of(0)), a) || !vecs.Same(add(t, a, a, rats.Of(-1)), vecs.Zero(len(a))) {
		t.Errorf("Add, of %v, %v, by %v", a, b, by)
	}
}

func dot(t *testing.T, a, b []api.Rat) api.Rat {
	t.Helper()
	x, e := vecs.Dot(a, b)
	if e != api.OK {
		t.Errorf("Dot(%v, %v): %d", a, b, e)
	}
	return x
}

func add(t *testing.T, a, b []api.Rat, by api.Rat) []api.Rat {
	t.Helper()
	l, e := vecs.Add(a, b, by)
	if e != api.OK {
		t.Errorf("Add(%v, %v, %v): %d", a, b, by, e)
	}
	return l
}

// TestLong: each call ends soon, though there are many fractions, which have nothing in common.
func TestLong(t *testing.T) { // R1, P4.2
	var l, ones []api.Rat
	sum := new(big.Rat)
	for n := uint32(2); len(l) < 2000; n++ {
		if big.NewInt(int64(n)).ProbablyPrime(0) {
			l, ones = append(l, rat(1, n)), append(ones, rats.Of(1))
			sum.Add(sum, big.NewRat(1, int64(n)))
		}
	}
	want(t, "Dot, of many", dot(t, l, ones), sum)
	if !vecs.Same(add(t, l, ones, rats.Of(0)), l) {
		t.Error("Add, of many")
	}
}

// TestMemory: what is handed in stays as it is, its spare room too, and no answer's list shares memory with it, or with another one.
func TestMemory(t *testing.T) { // R4
	for _, group := range rows(t) {
		for i, x := range group {
			y, by := group[(i+1)%len(group)], row(t, "0", "1", "-3/2")[i%3]
			for _, odd := range append(spoiled(x), x) {
				a, b, c := roomyRow(odd), roomyRow(y), roomy(by)
				checkMemory(t, a, b, c)
				checkMemory(t, a, a, rats.Of(1))
				if !sameRoom(a, roomyRow(odd)) || !sameRoom(b, roomyRow(y)) || !sameRoom([]api.Rat{c}, []api.Rat{roomy(by)}) {
					t.Fatalf("what was handed in: %v %v %v", odd, y, by)
				}
			}
		}
	}
}

// checkMemory clears each list that is answered, with its spare room, and asks whether that is to be seen in another one.
func checkMemory(t *testing.T, a, b []api.Rat, by api.Rat) {
	t.Helper()
	x, _ := vecs.Dot(a, b)
	again, _ := vecs.Dot(a, b)
	one, _ := vecs.Dot(a[:min(len(a), 1)], vecs.Scale(b[:min(len(b), 1)], rats.Of(1)))
	added, _ := vecs.Add(a, b, by)
	kept, _ := vecs.Add(a, b, rats.Of(0))
	vecs.Check(a)
	vecs.Same(a, b)
	answers := [][]api.Rat{{x, again, one}, added, kept, vecs.Scale(a, by), vecs.Scale(a, rats.Of(1)), vecs.Zero(3), vecs.Zero(3), vecs.Zero(0), vecs.Zero(-1)}
	var lists, before []api.Nat
	for _, l := range answers {
		for _, z := range l {
			lists = append(lists, z.Num.N, z.Den)
			before = append(before, slices.Clone(z.Num.N), slices.Clone(z.Den))
		}
	}
	for _, l := range answers {
		clear(l[:cap(l)])
	}
	for i, z := range lists {
		if !slices.Equal(z, before[i]) {
			t.Errorf("list %d of the answers to %v, %v, %v shares memory", i, a, b, by)
		}
		clear(z[:cap(z)])
	}
}

// roomyRow is a copy with spare room, in which something stands, as it does in the spare room of each of its fractions.
func roomyRow(l []api.Rat) []api.Rat {
	var room []api.Rat
	for _, a := range l {
		room = append(room, roomy(a))
	}
	room = append(room, roomy(rat(77, 5)), roomy(rat(2, 4)))
	return room[:len(l):len(room)]
}

func roomy(a api.Rat) api.Rat {
	return api.Rat{Num: api.Int{Neg: a.Num.Neg, N: roomyNat(a.Num.N)}, Den: roomyNat(a.Den)}
}

func roomyNat(a api.Nat) api.Nat {
	room := append(slices.Clone(a), 77, 78, 79)
	return room[: len(a) : len(a)+3]
}

func sameRoom(a, b []api.Rat) bool {
	return slices.EqualFunc(a[:cap(a)], b[:cap(b)], func(x, y api.Rat) bool {
		return same(x, y) && slices.Equal(x.Num.N[:cap(x.Num.N)], y.Num.N[:cap(y.Num.N)]) && slices.Equal(x.Den[:cap(x.Den)], y.Den[:cap(y.Den)])
	})
}
