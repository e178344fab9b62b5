package ints_test

import (
	"math"
	"math/big"
	"math/rand"
	"slices"
	"strings"
	"testing"

	"assayer/api"
	"assayer/ints"
	"assayer/nats"
)

const top = 1<<32 - 1

// mayNot are whole numbers that may not be.
func mayNot() []api.Int {
	return []api.Int{{Neg: true}, {Neg: true, N: api.Nat{}}, {N: api.Nat{0}}, {Neg: true, N: api.Nat{0}}, {N: api.Nat{5, 0}}, {Neg: true, N: api.Nat{5, 0}}, {N: api.Nat{top, top, 0}}, {Neg: true, N: api.Nat{top, top, 0}}}
}

// numbers are ordinary ones, edges, and numbers of many parts, each with what is 0 less it; always the same.
func numbers() []api.Int {
	sizes := []api.Nat{{1}, {2}, {3}, {5}, {7}, {12}, {top - 1}, {top}, {0, 1}, {1, 1}, {top, 1<<31 - 1}, {0, 1 << 31}, {1, 1 << 31}, {top, top}, {0, 0, 1}, {1, 0, 1}, {top, top, top}}
	r := rand.New(rand.NewSource(2))
	for n := 1; n < 12; n += 2 {
		any := make(api.Nat, n)
		for i := range any {
			any[i] = r.Uint32() | 1
		}
		sizes = append(sizes, any)
	}
	l := []api.Int{{}, {N: api.Nat{}}}
	for _, n := range sizes {
		l = append(l, api.Int{N: n}, api.Int{Neg: true, N: n})
	}
	return l
}

// bigOf is the number, as another library has it; one that may not be is 0.
func bigOf(a api.Int) *big.Int {
	n, _ := new(big.Int).SetString(nats.Text(a.N), 10)
	if a.Neg {
		n.Neg(n)
	}
	return n
}

// want complains, if a may not be, or is another number.
func want(t *testing.T, what string, a api.Int, n *big.Int) {
	t.Helper()
	if !ints.Check(a) || bigOf(a).Cmp(n) != 0 {
		t.Errorf("%s: %v, but it is %s", what, a, n)
	}
}

func isZero(a api.Int) bool { return !a.Neg && len(a.N) == 0 }

func same(a, b api.Int) bool { return a.Neg == b.Neg && slices.Equal(a.N, b.N) }

func TestCheck(t *testing.T) { // P2.1
	for _, a := range numbers() {
		if !ints.Check(a) {
			t.Errorf("%v may be", a)
		}
	}
	for _, a := range mayNot() {
		if ints.Check(a) {
			t.Errorf("%v may not be", a)
		}
	}
}

// TestMayNot: one that may not be is as 0 to all but Back.
func TestMayNot(t *testing.T) { // P2.1
	for _, a := range mayNot() {
		for _, b := range append(numbers(), mayNot()...) {
			y := bigOf(b)
			want(t, "Add", ints.Add(a, b), y)
			want(t, "Add", ints.Add(b, a), y)
			want(t, "Sub", ints.Sub(b, a), y)
			want(t, "Sub", ints.Sub(a, b), new(big.Int).Neg(y))
			want(t, "Mul", ints.Mul(a, b), new(big.Int))
			want(t, "Mul", ints.Mul(b, a), new(big.Int))
			if ints.Cmp(b, a) != y.Sign() || ints.Cmp(a, b) != -y.Sign() {
				t.Errorf("Cmp(%v, %v): %d", a, b, ints.Cmp(a, b))
			}
		}
		want(t, "Neg", ints.Neg(a), new(big.Int))
		if ints.Sign(a) != 0 || ints.Text(a) != "0" {
			t.Errorf("%v: %d %s", a, ints.Sign(a), ints.Text(a))
		}
	}
}

func TestOfBack(t *testing.T) { // P2.2
	for n, a := range map[int64]api.Int{
		0: {}, 1: {N: api.Nat{1}}, -1: {Neg: true, N: api.Nat{1}}, -5: {Neg: true, N: api.Nat{5}},
		top: {N: api.Nat{top}}, -top: {Neg: true, N: api.Nat{top}}, 1 << 32: {N: api.Nat{0, 1}}, -1 << 32: {Neg: true, N: api.Nat{0, 1}},
		math.MaxInt64: {N: api.Nat{top, 1<<31 - 1}}, -math.MaxInt64: {Neg: true, N: api.Nat{top, 1<<31 - 1}}, math.MinInt64: {Neg: true, N: api.Nat{0, 1 << 31}},
	} {
		if b := ints.Of(n); !same(a, b) {
			t.Errorf("Of(%d): %v", n, b)
		}
		if m, e := ints.Back(a); m != n || e != api.OK {
			t.Errorf("Back(%v): %d %d", a, m, e)
		}
	}
	for _, a := range mayNot() {
		if n, e := ints.Back(a); n != 0 || e != api.ErrArg {
			t.Errorf("Back(%v): %d %d", a, n, e)
		}
	}
	for _, n := range []api.Nat{{1, 1 << 31}, {top, top}, {0, 0, 1}, {1, 0, 0, 1}} {
		for _, a := range []api.Int{{N: n}, {Neg: true, N: n}, {N: api.Nat{0, 1 << 31}}} {
			if m, e := ints.Back(a); m != 0 || e != api.ErrLimit {
				t.Errorf("Back(%v): %d %d", a, m, e)
			}
		}
	}
	// Neither too great a number nor a wrong sign hides that it may not be.
	if _, e := ints.Back(api.Int{Neg: true, N: api.Nat{1, 1, 1, 0}}); e != api.ErrArg {
		t.Errorf("%d", e)
	}
}

func TestCmpSign(t *testing.T) { // P2.3
	for _, a := range numbers() {
		for _, b := range numbers() {
			if c := ints.Cmp(a, b); c != bigOf(a).Cmp(bigOf(b)) {
				t.Errorf("Cmp(%v, %v): %d", a, b, c)
			}
		}
		if s := ints.Sign(a); s != bigOf(a).Sign() {
			t.Errorf("Sign(%v): %d", a, s)
		}
	}
}

func TestAddSubMulNeg(t *testing.T) { // P2.4
	for _, a := range numbers() {
		x := bigOf(a)
		for _, b := range numbers() {
			y := bigOf(b)
			want(t, "Add", ints.Add(a, b), new(big.Int).Add(x, y))
			want(t, "Sub", ints.Sub(a, b), new(big.Int).Sub(x, y))
			want(t, "Mul", ints.Mul(a, b), new(big.Int).Mul(x, y))
		}
		want(t, "Neg", ints.Neg(a), new(big.Int).Neg(x))
	}
}

func TestText(t *testing.T) { // P2.5
	for _, a := range numbers() {
		if s := ints.Text(a); s != bigOf(a).String() {
			t.Errorf("Text(%v): %s", a, s)
		}
	}
}

func TestParse(t *testing.T) { // P2.5
	nines := strings.Repeat("9", api.MaxDigits)
	for _, s := range []string{"0", "1", "-1", "12", "-12", "-4294967296", "18446744073709551616", nines, "-" + nines} {
		a, e := ints.Parse(s)
		n, _ := new(big.Int).SetString(s, 10)
		want(t, s, a, n)
		if e != api.OK {
			t.Errorf("Parse(%s): %d", s, e)
		}
	}
	for s, want := range map[string]api.Errno{
		"": api.ErrForm, "-": api.ErrForm, "-0": api.ErrForm, "-00": api.ErrForm, "00": api.ErrForm, "01": api.ErrForm, "-01": api.ErrForm,
		"--1": api.ErrForm, "--": api.ErrForm, "+1": api.ErrForm, "-+1": api.ErrForm, "1-": api.ErrForm, "- 1": api.ErrForm, " -1": api.ErrForm, "-1 ": api.ErrForm, "-a": api.ErrForm, "\u22121": api.ErrForm, "-1\x00": api.ErrForm,
		nines + "9": api.ErrLimit, "-" + nines + "9": api.ErrLimit, "--" + nines + "9": api.ErrForm, "-0" + nines: api.ErrForm, "-" + nines + "x": api.ErrForm,
	} {
		if a, e := ints.Parse(s); !isZero(a) || e != want {
			t.Errorf("Parse(%q): %v %d", s, a, e)
		}
	}
}

func TestLaws(t *testing.T) { // P2.6
	l := numbers()
	for i, a := range l {
		for j, b := range l {
			c := l[(i*7+j*3)%len(l)]
			law(t, "sum, the other way about", ints.Add(a, b), ints.Add(b, a))
			law(t, "product, the other way about", ints.Mul(a, b), ints.Mul(b, a))
			law(t, "sum of three", ints.Add(ints.Add(a, b), c), ints.Add(a, ints.Add(b, c)))
			law(t, "product of three", ints.Mul(ints.Mul(a, b), c), ints.Mul(a, ints.Mul(b, c)))
			law(t, "product of a sum", ints.Mul(ints.Add(a, b), c), ints.Add(ints.Mul(a, c), ints.Mul(b, c)))
			law(t, "less, as a sum", ints.Sub(a, b), ints.Add(a, ints.Neg(b)))
			law(t, "less, and back", ints.Add(ints.Sub(a, b), b), a)
			if ints.Cmp(a, b) != ints.Sign(ints.Sub(a, b)) {
				t.Errorf("Cmp(%v, %v): %d", a, b, ints.Cmp(a, b))
			}
		}
		law(t, "and 0", ints.Add(a, api.Int{}), a)
		law(t, "times 1", ints.Mul(a, ints.Of(1)), a)
		law(t, "times 0", ints.Mul(a, api.Int{}), api.Int{})
		law(t, "times -1", ints.Mul(a, ints.Of(-1)), ints.Neg(a))
		law(t, "less itself", ints.Sub(a, a), api.Int{})
		law(t, "0 less it, twice", ints.Neg(ints.Neg(a)), a)
		read, e := ints.Parse(ints.Text(a))
		law(t, "what is read", read, a)
		if e != api.OK {
			t.Errorf("Parse(%s): %d", ints.Text(a), e)
		}
	}
}

func law(t *testing.T, what string, a, b api.Int) {
	t.Helper()
	if !same(a, b) {
		t.Errorf("%s: %v %v", what, a, b)
	}
}

// TestMemory: what is handed in stays as it is, its spare room too, and no answer shares memory with it, or with another one.
func TestMemory(t *testing.T) { // R4
	l := append(numbers(), mayNot()...)
	for _, x := range l {
		for _, y := range l {
			a, b := roomy(x), roomy(y)
			checkMemory(t, a, b)
			checkMemory(t, a, a)
			if !sameRoom(a, roomy(x)) || !sameRoom(b, roomy(y)) {
				t.Fatalf("what was handed in: %v %v", x, y)
			}
		}
	}
}

// checkMemory clears each answer, with its spare room, and asks whether that is to be seen in another one.
func checkMemory(t *testing.T, a, b api.Int) {
	t.Helper()
	answers := []api.Int{ints.Add(a, b), ints.Sub(a, b), ints.Sub(b, a), ints.Mul(a, b), ints.Neg(a), ints.Neg(a), ints.Add(a, api.Int{}), ints.Add(api.Int{}, a), ints.Sub(a, api.Int{}), ints.Mul(a, ints.Of(1))}
	ints.Cmp(a, b)
	ints.Sign(a)
	ints.Text(a)
	ints.Back(a)
	var before []api.Int
	for _, z := range answers {
		before = append(before, api.Int{Neg: z.Neg, N: slices.Clone(z.N)})
	}
	for i, z := range answers {
		clear(z.N[:cap(z.N)])
		for j := i + 1; j < len(answers); j++ {
			law(t, "another answer", answers[j], before[j])
		}
	}
}

// roomy is a copy with spare room, in which something stands.
func roomy(a api.Int) api.Int {
	n := len(a.N)
	room := append(slices.Clone(a.N), 77, 78, 79)
	return api.Int{Neg: a.Neg, N: room[: n : n+3]}
}

func sameRoom(a, b api.Int) bool {
	n := len(a.N)
	return a.Neg == b.Neg && n == len(b.N) && slices.Equal(a.N[:n+3], b.N[:n+3])
}
