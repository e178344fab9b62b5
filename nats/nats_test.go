package nats_test

import (
	"math/big"
	"math/rand"
	"slices"
	"strings"
	"testing"

	"assayer/api"
	"assayer/nats"
)

const top = 1<<32 - 1

// mayNot are numbers that may not be.
var mayNot = []api.Nat{{0}, {1, 0}, {0, 0, 0}, {top, top, 0}}

// numbers are ordinary ones, edges, and numbers of many parts, made of parts at which carries and guesses go wrong; always the same.
func numbers() []api.Nat {
	l := []api.Nat{nil, {1}, {2}, {9}, {10}, {999999999}, {1000000000}, {top}, {0, 1}, {1, 1}, {top, top}, {0, 0, 1}, {0, 0, 1 << 31}, {top, top, 1 << 31}}
	parts := []uint32{0, 0, 1, 2, 1<<31 - 1, 1 << 31, 1<<31 + 1, top - 1, top, top}
	r := rand.New(rand.NewSource(1))
	for _, n := range []int{1, 2, 2, 3, 3, 3, 4, 4, 4, 5, 6, 7, 8, 9, 15, 16, 17, 40, 100} {
		edgy, any := make(api.Nat, n), make(api.Nat, n)
		for i := range n {
			edgy[i], any[i] = parts[r.Intn(len(parts))], r.Uint32()
		}
		edgy[n-1], any[n-1] = edgy[n-1]|1<<(n%32), any[n-1]|1
		l = append(l, edgy, any)
	}
	return l
}

// bigOf is the number, as another library has it; one that may not be is 0.
func bigOf(a api.Nat) *big.Int {
	n := new(big.Int)
	if len(a) > 0 && a[len(a)-1] == 0 {
		return n
	}
	for _, p := range slices.Backward(a) {
		n.Or(n.Lsh(n, 32), big.NewInt(int64(p)))
	}
	return n
}

// want complains, if a may not be, or is another number.
func want(t *testing.T, what string, a api.Nat, n *big.Int) {
	t.Helper()
	if !nats.Check(a) || bigOf(a).Cmp(n) != 0 {
		t.Errorf("%s: %v, but it is %s", what, a, n)
	}
}

func TestCheck(t *testing.T) { // P1.1
	for _, a := range numbers() {
		if !nats.Check(a) {
			t.Errorf("%v may be", a)
		}
	}
	for _, a := range mayNot {
		if nats.Check(a) {
			t.Errorf("%v may not be", a)
		}
	}
	if !nats.Check(api.Nat{}) {
		t.Error("0 may be")
	}
}

func TestOfBack(t *testing.T) { // P1.2
	for n, parts := range map[uint64]api.Nat{0: nil, 1: {1}, top: {top}, 1 << 32: {0, 1}, 1<<32 + 7: {7, 1}, 1 << 63: {0, 1 << 31}, 1<<64 - 1: {top, top}} {
		if a := nats.Of(n); !slices.Equal(a, parts) {
			t.Errorf("Of(%d): %v", n, a)
		}
		if m, e := nats.Back(parts); m != n || e != api.OK {
			t.Errorf("Back(%v): %d %d", parts, m, e)
		}
	}
	for _, a := range mayNot {
		if n, e := nats.Back(a); n != 0 || e != api.ErrArg {
			t.Errorf("Back(%v): %d %d", a, n, e)
		}
	}
	for _, a := range []api.Nat{{0, 0, 1}, {top, top, top}, {1, 0, 0, 0, 5}} {
		if n, e := nats.Back(a); n != 0 || e != api.ErrLimit {
			t.Errorf("Back(%v): %d %d", a, n, e)
		}
	}
}

func TestCmp(t *testing.T) { // P1.3
	for _, a := range append(numbers(), mayNot...) {
		for _, b := range append(numbers(), mayNot...) {
			if c := nats.Cmp(a, b); c != bigOf(a).Cmp(bigOf(b)) {
				t.Errorf("Cmp(%v, %v): %d", a, b, c)
			}
		}
	}
}

func TestAddSubMul(t *testing.T) { // P1.4
	for _, a := range append(numbers(), mayNot...) {
		for _, b := range append(numbers(), mayNot...) {
			x, y := bigOf(a), bigOf(b)
			want(t, "Add", nats.Add(a, b), new(big.Int).Add(x, y))
			want(t, "Mul", nats.Mul(a, b), new(big.Int).Mul(x, y))
			d, e := nats.Sub(a, b)
			if !nats.Check(a) || !nats.Check(b) || x.Cmp(y) < 0 {
				if len(d) != 0 || e != api.ErrArg {
					t.Errorf("Sub(%v, %v): %v %d", a, b, d, e)
				}
				continue
			}
			want(t, "Sub", d, new(big.Int).Sub(x, y))
			if e != api.OK {
				t.Errorf("Sub(%v, %v): %d", a, b, e)
			}
		}
	}
}

func TestDiv(t *testing.T) { // P1.5
	for _, a := range numbers() {
		for _, b := range numbers() {
			// A number whose highest parts are just those of b, or a product less 1, is where a guess is too great.
			wide := nats.Mul(a, b)
			less, _ := nats.Sub(wide, nats.Of(1))
			for _, c := range []api.Nat{a, wide, less, nats.Add(wide, a), append(api.Nat{0, top}, b...)} {
				checkDiv(t, c, b)
			}
		}
	}
	for _, a := range mayNot {
		for _, c := range [][2]api.Nat{{a, nil}, {a, {1}}, {nil, a}, {{7}, a}, {a, a}} {
			if q, r, e := nats.Div(c[0], c[1]); len(q) != 0 || len(r) != 0 || e != api.ErrArg {
				t.Errorf("Div(%v): %v %v %d", c, q, r, e)
			}
		}
	}
}

func checkDiv(t *testing.T, a, b api.Nat) {
	t.Helper()
	if !nats.Check(a) {
		return
	}
	q, r, e := nats.Div(a, b)
	if len(b) == 0 {
		if len(q) != 0 || len(r) != 0 || e != api.ErrZero {
			t.Errorf("Div(%v, 0): %v %v %d", a, q, r, e)
		}
		return
	}
	x, y := new(big.Int).QuoRem(bigOf(a), bigOf(b), new(big.Int))
	want(t, "Div", q, x)
	want(t, "Div, left", r, y)
	if e != api.OK {
		t.Errorf("Div(%v, %v): %d", a, b, e)
	}
}

// TestDivGuesses: b is so small beyond its highest part that a guess by the two highest ones is right, or is not, by what is below.
func TestDivGuesses(t *testing.T) { // P1.5
	for _, c := range [][2]api.Nat{
		{{0, 0, 1 << 31, 1<<31 - 1}, {1, 0, 1 << 31}},
		{{0, top - 1, 1 << 31}, {top, 1 << 31}},
		{{3, 0, 1 << 31}, {1, 0, 1 << 29}},
		{{0, 0, 0, 1 << 31, top, top}, {top, 0, top, 1 << 31}},
		{{top, top, top, top}, {top, top}},
		{{0, 0, 0, 0, 1}, {top, top, top}},
	} {
		checkDiv(t, c[0], c[1])
	}
}

func TestGcd(t *testing.T) { // P1.6
	l := append(numbers(), mayNot...)
	for i, a := range l {
		for j, b := range l {
			f := l[(i+j)%len(l)]
			for _, c := range [][2]api.Nat{{a, b}, {nats.Mul(a, f), nats.Mul(b, f)}} {
				want(t, "Gcd", nats.Gcd(c[0], c[1]), new(big.Int).GCD(nil, nil, bigOf(c[0]), bigOf(c[1])))
			}
		}
	}
	// Of two Fibonacci numbers, one behind the other, each step takes away as little as can be.
	a, b := nats.Of(1), nats.Of(1)
	for range 1000 {
		a, b = b, nats.Add(a, b)
	}
	want(t, "Gcd", nats.Gcd(a, b), big.NewInt(1))
	want(t, "Gcd", nats.Gcd(nats.Mul(a, a), nats.Mul(b, a)), bigOf(a))
}

func TestText(t *testing.T) { // P1.7
	for _, a := range append(numbers(), mayNot...) {
		if s := nats.Text(a); s != bigOf(a).String() {
			t.Errorf("Text(%v): %s", a, s)
		}
	}
	for _, n := range []int{1, 8, 9, 10, 17, 18, 19, 27, 100, 200} {
		for _, s := range []string{"1" + strings.Repeat("0", n-1), strings.Repeat("9", n), "1" + strings.Repeat("0", n-1) + "1"} {
			n, _ := new(big.Int).SetString(s, 10)
			var a api.Nat
			for ; n.Sign() > 0; n.Rsh(n, 32) {
				a = append(a, uint32(n.Uint64()))
			}
			if x := nats.Text(a); x != s {
				t.Errorf("%s: %s", s, x)
			}
		}
	}
}

func TestParse(t *testing.T) { // P1.7
	for _, s := range []string{"0", "7", "10", "4294967295", "4294967296", "18446744073709551616", "1" + strings.Repeat("0", 199), strings.Repeat("9", 200), strings.Repeat("1234567890", 20)} {
		a, e := nats.Parse(s)
		n, _ := new(big.Int).SetString(s, 10)
		want(t, s, a, n)
		if e != api.OK {
			t.Errorf("Parse(%s): %d", s, e)
		}
	}
	nines := strings.Repeat("9", 201)
	for s, want := range map[string]api.Errno{
		"": api.ErrForm, "00": api.ErrForm, "01": api.ErrForm, "-1": api.ErrForm, "+1": api.ErrForm, " 1": api.ErrForm, "1 ": api.ErrForm, "1a": api.ErrForm, "a": api.ErrForm, "1.0": api.ErrForm, "1_0": api.ErrForm, "\x001": api.ErrForm, "1/": api.ErrForm, "1:": api.ErrForm, "١": api.ErrForm, "1\xff": api.ErrForm,
		nines: api.ErrLimit, nines + nines: api.ErrLimit, "0" + nines: api.ErrForm, nines + "x": api.ErrForm, strings.Repeat("0", 201): api.ErrForm,
	} {
		if a, e := nats.Parse(s); len(a) != 0 || e != want {
			t.Errorf("Parse(%q): %v %d", s, a, e)
		}
	}
}

func TestLaws(t *testing.T) { // P1.8
	l := numbers()
	for i, a := range l {
		for j, b := range l {
			c := l[(i*7+j*3)%len(l)]
			same(t, "sum, the other way about", nats.Add(a, b), nats.Add(b, a))
			same(t, "product, the other way about", nats.Mul(a, b), nats.Mul(b, a))
			same(t, "sum of three", nats.Add(nats.Add(a, b), c), nats.Add(a, nats.Add(b, c)))
			same(t, "product of three", nats.Mul(nats.Mul(a, b), c), nats.Mul(a, nats.Mul(b, c)))
			same(t, "product of a sum", nats.Mul(nats.Add(a, b), c), nats.Add(nats.Mul(a, c), nats.Mul(b, c)))
			back, _ := nats.Sub(nats.Add(a, b), b)
			same(t, "sum, less one", back, a)
			if len(b) > 0 {
				q, r, _ := nats.Div(a, b)
				same(t, "what was divided", nats.Add(nats.Mul(q, b), r), a)
				if nats.Cmp(r, b) >= 0 {
					t.Errorf("Div(%v, %v) leaves %v", a, b, r)
				}
			}
		}
		same(t, "and 0", nats.Add(a, nil), a)
		same(t, "times 1", nats.Mul(a, nats.Of(1)), a)
		same(t, "times 0", nats.Mul(a, nil), nil)
		if s := nats.Text(a); len(s) <= api.MaxDigits {
			read, e := nats.Parse(s)
			same(t, "what is read", read, a)
			if e != api.OK {
				t.Errorf("Parse(%s): %d", s, e)
			}
		}
	}
}

func same(t *testing.T, what string, a, b api.Nat) {
	t.Helper()
	if !slices.Equal(a, b) {
		t.Errorf("%s: %v %v", what, a, b)
	}
}

// TestMemory: what is handed in stays as it is, its spare room too, and no answer shares memory with it, or with another one.
func TestMemory(t *testing.T) { // R4
	l := append(numbers(), mayNot...)
	for _, x := range l {
		for _, y := range l {
			checkMemory(t, x, y)
			checkMemory(t, x, x)
		}
	}
}

func checkMemory(t *testing.T, x, y api.Nat) {
	t.Helper()
	a, b := roomy(x), roomy(y)
	quotient, rest, _ := nats.Div(a, b)
	less, _ := nats.Sub(a, b)
	answers := []api.Nat{quotient, rest, less, nats.Add(a, b), nats.Mul(a, b), nats.Gcd(a, b), nats.Gcd(a, a)}
	nats.Cmp(a, b)
	nats.Text(a)
	nats.Back(a)
	var before []api.Nat
	for _, z := range answers {
		before = append(before, slices.Clone(z))
	}
	for i, z := range answers {
		clear(z[:cap(z)])
		for j := i + 1; j < len(answers); j++ {
			same(t, "another answer", answers[j], before[j])
		}
	}
	same(t, "what was handed in", a[:cap(a)], roomy(x)[:cap(a)])
	same(t, "what was handed in", b[:cap(b)], roomy(y)[:cap(b)])
}

// roomy is a copy with spare room, in which something stands.
func roomy(a api.Nat) api.Nat {
	room := append(slices.Clone(a), 77, 78, 79)
	return room[: len(a) : len(a)+3]
}
