package rats_test

import (
	"math"
	"math/big"
	"math/rand"
	"regexp"
	"slices"
	"strings"
	"testing"

	"assayer/api"
	"assayer/ints"
	"assayer/nats"
	"assayer/rats"
)

const top = 1<<32 - 1

// rat is a fraction as it stands here, in lowest terms or not.
func rat(num int64, den ...uint32) api.Rat { return api.Rat{Num: ints.Of(num), Den: den} }

// mayNot are fractions that may not be.
func mayNot() []api.Rat {
	five := api.Nat{5}
	return []api.Rat{
		{}, {Num: ints.Of(5)}, {Num: ints.Of(1), Den: api.Nat{}}, rat(1, 0), rat(1, 1, 0), rat(5, 7, 3, 0), rat(0, 0), rat(0, 0, 0, 1, 0),
		rat(2, 4), rat(-2, 4), rat(4, 2), rat(5, 5), rat(0, 5), rat(0, 2), rat(6, 0, 1), {Num: api.Int{N: api.Nat{0, 0, 3}}, Den: api.Nat{0, 3}},
		{Num: api.Int{Neg: true}, Den: api.Nat{1}}, {Num: api.Int{Neg: true}, Den: five}, {Num: api.Int{N: api.Nat{0}}, Den: api.Nat{1}}, {Num: api.Int{N: api.Nat{3, 0}}, Den: five}, {Num: api.Int{Neg: true, N: api.Nat{3, 0}}, Den: five},
		{Num: api.Int{N: five}, Den: five},
	}
}

// fractions are ordinary ones, edges, and ones of many parts, that have factors in common or none; always the same.
func fractions(t *testing.T) []api.Rat {
	t.Helper()
	l := []api.Rat{rat(0, 1)}
	for _, s := range []string{
		"1", "2", "3", "1/2", "1/3", "2/3", "3/2", "5/6", "1/6", "7/12", "25/2", "7/2", "4294967295", "4294967296", "1/4294967295", "1/4294967296", "4294967297/4294967296",
		"18446744073709551615/18446744073709551616", "18446744073709551616", "1/18446744073709551616", "18446744073709551616/18446744073709551615",
		"340282366920938463463374607431768211455/79228162514264337593543950336", "6469693230/200560490131", "200560490131/6469693230",
	} {
		l = append(l, read(t, s), read(t, "-"+s))
	}
	r := rand.New(rand.NewSource(3))
	for _, n := range []int{20, 100, 200, 500} {
		num, den := new(big.Int).Rand(r, new(big.Int).Lsh(big.NewInt(1), uint(n))), new(big.Int).Rand(r, new(big.Int).Lsh(big.NewInt(1), uint(n)))
		q := new(big.Rat).SetFrac(num.Add(num, big.NewInt(1)), den.Add(den, big.NewInt(1)))
		l = append(l, ratOf(q), ratOf(q.Neg(q)))
	}
	return l
}

// read is the fraction that another library reads.
func read(t *testing.T, s string) api.Rat {
	t.Helper()
	q, ok := new(big.Rat).SetString(s)
	if !ok {
		t.Fatalf("%q is no fraction's text", s)
	}
	return ratOf(q)
}

func ratOf(q *big.Rat) api.Rat {
	return api.Rat{Num: api.Int{Neg: q.Sign() < 0, N: natOf(q.Num())}, Den: natOf(q.Denom())}
}

// natOf is how far from 0 the number is.
func natOf(n *big.Int) api.Nat {
	var a api.Nat
	for n = new(big.Int).Abs(n); n.Sign() > 0; n.Rsh(n, 32) {
		a = append(a, uint32(new(big.Int).And(n, big.NewInt(top)).Uint64()))
	}
	return a
}

// bigOf is the fraction, as another library has it; one that may not be is 0.
func bigOf(a api.Rat) *big.Rat {
	num, den := bigInt(a.Num), bigInt(api.Int{N: a.Den})
	if !mayBe(a) {
		return new(big.Rat)
	}
	return new(big.Rat).SetFrac(num, den)
}

func bigInt(a api.Int) *big.Int {
	n := new(big.Int)
	for _, p := range slices.Backward(a.N) {
		n.Or(n.Lsh(n, 32), big.NewInt(int64(p)))
	}
	if a.Neg {
		n.Neg(n)
	}
	return n
}

// mayBe tells whether a fraction may be, without the package's own calls.
func mayBe(a api.Rat) bool {
	num, den := bigInt(a.Num), bigInt(api.Int{N: a.Den})
	switch {
	case den.Sign() == 0 || a.Den[len(a.Den)-1] == 0:
		return false
	case len(a.Num.N) > 0 && a.Num.N[len(a.Num.N)-1] == 0:
		return false
	case a.Num.Neg && num.Sign() == 0:
		return false
	}
	return new(big.Int).GCD(nil, nil, num.Abs(num), den).Cmp(big.NewInt(1)) == 0
}

// want complains, if a may not be, or is another fraction.
func want(t *testing.T, what string, a api.Rat, q *big.Rat) {
	t.Helper()
	if !mayBe(a) || bigOf(a).Cmp(q) != 0 {
		t.Errorf("%s: %v, but it is %s", what, a, q)
	}
}

// wantNone complains, if the answer is not just an error.
func wantNone(t *testing.T, what string, a api.Rat, e, fault api.Errno) {
	t.Helper()
	if a.Num.Neg || len(a.Num.N) != 0 || len(a.Den) != 0 || e != fault {
		t.Errorf("%s: %v %d, but it is error %d", what, a, e, fault)
	}
}

func same(a, b api.Rat) bool {
	return a.Num.Neg == b.Num.Neg && slices.Equal(a.Num.N, b.Num.N) && slices.Equal(a.Den, b.Den)
}

func TestCheck(t *testing.T) { // P3.1
	for _, a := range fractions(t) {
		if !rats.Check(a) {
			t.Errorf("%v may be", a)
		}
	}
	for _, a := range mayNot() {
		if rats.Check(a) {
			t.Errorf("%v may not be", a)
		}
	}
	if !rats.Check(api.Rat{Num: api.Int{N: api.Nat{}}, Den: api.Nat{1}}) {
		t.Error("0 may be")
	}
}

func TestMake(t *testing.T) { // P3.2
	l := []api.Int{{}, ints.Of(1), ints.Of(-1), ints.Of(2), ints.Of(-4), ints.Of(5), ints.Of(6), ints.Of(-6), ints.Of(math.MinInt64), ints.Of(math.MaxInt64)}
	for _, a := range fractions(t) {
		l = append(l, a.Num)
	}
	l = append(l, ints.Mul(l[len(l)-1], ints.Of(-6)), ints.Mul(l[len(l)-3], l[len(l)-1]))
	for _, num := range l {
		for _, den := range l {
			a, e := rats.Make(num, den)
			if ints.Sign(den) == 0 {
				wantNone(t, "Make, by 0", a, e, api.ErrZero)
				continue
			}
			want(t, "Make", a, new(big.Rat).SetFrac(bigInt(num), bigInt(den)))
			if e != api.OK {
				t.Errorf("Make(%v, %v): %d", num, den, e)
			}
		}
	}
	for _, odd := range []api.Int{{Neg: true}, {N: api.Nat{0}}, {Neg: true, N: api.Nat{0}}, {N: api.Nat{5, 0}}, {Neg: true, N: api.Nat{1, 5, 0}}} {
		for _, n := range append(l, odd) {
			a, e := rats.Make(odd, n)
			wantNone(t, "Make, of one that may not be", a, e, api.ErrArg)
			a, e = rats.Make(n, odd)
			wantNone(t, "Make, by one that may not be", a, e, api.ErrArg)
		}
	}
}

func TestOf(t *testing.T) { // P3.2
	for _, n := range []int64{0, 1, -1, 2, -12, top, -top, 1 << 32, -1 << 32, math.MaxInt64, math.MinInt64} {
		want(t, "Of", rats.Of(n), new(big.Rat).SetInt64(n))
	}
}

func TestCmpSign(t *testing.T) { // P3.3
	l := append(fractions(t), mayNot()...)
	for _, a := range l {
		for _, b := range l {
			if c := rats.Cmp(a, b); c != bigOf(a).Cmp(bigOf(b)) {
				t.Errorf("Cmp(%v, %v): %d", a, b, c)
			}
		}
		if s := rats.Sign(a); s != bigOf(a).Sign() {
			t.Errorf("Sign(%v): %d", a, s)
		}
	}
}

func TestAddSubMul(t *testing.T) { // P3.4
	l := append(fractions(t), mayNot()...)
	for _, a := range l {
		x := bigOf(a)
		for _, b := range l {
			y := bigOf(b)
			want(t, "Add", rats.Add(a, b), new(big.Rat).Add(x, y))
			want(t, "Sub", rats.Sub(a, b), new(big.Rat).Sub(x, y))
			want(t, "Mul", rats.Mul(a, b), new(big.Rat).Mul(x, y))
		}
	}
}

func TestDiv(t *testing.T) { // P3.4
	for _, a := range fractions(t) {
		for _, b := range fractions(t) {
			q, e := rats.Div(a, b)
			if len(b.Num.N) == 0 {
				wantNone(t, "Div, by 0", q, e, api.ErrZero)
				continue
			}
			want(t, "Div", q, new(big.Rat).Quo(bigOf(a), bigOf(b)))
			if e != api.OK {
				t.Errorf("Div(%v, %v): %d", a, b, e)
			}
		}
	}
	for _, odd := range mayNot() {
		for _, a := range append(fractions(t), mayNot()...) {
			q, e := rats.Div(odd, a)
			wantNone(t, "Div, of one that may not be", q, e, api.ErrArg)
			q, e = rats.Div(a, odd)
			wantNone(t, "Div, by one that may not be", q, e, api.ErrArg)
		}
	}
}

// TestSmall: all fractions of small numbers, among which parts cancel in each way.
func TestSmall(t *testing.T) { // P3.4, P3.5
	var l []api.Rat
	for num := int64(-12); num <= 12; num++ {
		for den := int64(1); den <= 12; den++ {
			a, _ := rats.Make(ints.Of(num), ints.Of(den))
			want(t, "Make", a, big.NewRat(num, den))
			if n, _ := ints.Back(rats.Floor(a)); n != int64(math.Floor(float64(num)/float64(den))) || rats.Whole(a) != (num%den == 0) {
				t.Errorf("%d/%d: %d %t", num, den, n, rats.Whole(a))
			}
			l = append(l, a)
		}
	}
	for _, a := range l {
		for _, b := range l {
			x, y := bigOf(a), bigOf(b)
			want(t, "Add", rats.Add(a, b), new(big.Rat).Add(x, y))
			want(t, "Sub", rats.Sub(a, b), new(big.Rat).Sub(x, y))
			want(t, "Mul", rats.Mul(a, b), new(big.Rat).Mul(x, y))
			if q, e := rats.Div(a, b); y.Sign() != 0 {
				want(t, "Div", q, new(big.Rat).Quo(x, y))
			} else {
				wantNone(t, "Div, by 0", q, e, api.ErrZero)
			}
		}
	}
}

func TestFloorWhole(t *testing.T) { // P3.5
	l := append(fractions(t), mayNot()...)
	for _, a := range slices.Clone(l) {
		l = append(l, rats.Mul(a, rats.Of(12)), rats.Add(a, rats.Of(-1)))
	}
	for _, a := range l {
		q := bigOf(a)
		// Of another library, Div leaves something from 0 on.
		n := new(big.Int).Div(q.Num(), q.Denom())
		if f := rats.Floor(a); !ints.Check(f) || bigInt(f).Cmp(n) != 0 {
			t.Errorf("Floor(%v): %v", a, f)
		}
		if w := rats.Whole(a); w != q.IsInt() {
			t.Errorf("Whole(%v): %t", a, w)
		}
	}
	for s, n := range map[string]int64{"7/2": 3, "-7/2": -4, "-4": -4, "4": 4, "0": 0, "1/2": 0, "-1/2": -1, "-1/4294967296": -1, "-8589934591/2": -4294967296} {
		if f := rats.Floor(read(t, s)); bigInt(f).Cmp(big.NewInt(n)) != 0 || !ints.Check(f) {
			t.Errorf("Floor(%s): %v", s, f)
		}
	}
}

func TestText(t *testing.T) { // P3.6
	for _, a := range append(fractions(t), mayNot()...) {
		if s := rats.Text(a); s != bigOf(a).RatString() {
			t.Errorf("Text(%v): %s", a, s)
		}
	}
}

func TestParse(t *testing.T) { // P3.6
	nines, noughts := strings.Repeat("9", api.MaxDigits), strings.Repeat("0", api.MaxDigits)
	for _, s := range []string{
		"0", "1", "-1", "12", "-12", "6/4", "-6/4", "0/5", "5/5", "7/1", "4294967296/8589934592", "0.0", "0.00", "0.5", "-0.5", "12.50", "-12.50", "1.0", "-3.0", "10.01", "0.05", "0.050", "100.001", "-0.0001",
		nines, "-" + nines, nines + "/" + nines, "1/" + nines, "-" + nines + "/7", nines[1:] + ".9", "9." + nines[1:], "0." + noughts[1:], "0." + noughts[2:] + "5", "-0." + noughts[2:] + "5", nines[100:] + "." + nines[:100], "0." + nines[1:], "1." + noughts[1:],
	} {
		a, e := rats.Parse(s)
		want(t, s, a, bigOf(read(t, s)))
		if e != api.OK {
			t.Errorf("Parse(%s): %d", s, e)
		}
	}
}

func TestParseForm(t *testing.T) { // P3.6
	long := strings.Repeat("9", api.MaxDigits+1)
	for _, s := range []string{
		"", "-", "/", ".", "-/", "-.", "01", "-01", "00", "-0", "--1", "+1", " 1", "1 ", "- 1", "a", "1a", "1e5", "0x1", "1_0", "\x00", "1\xff", "\u0661", "\u22121", "1,5",
		"1/0", "0/0", "-1/0", "1/", "/1", "1//2", "1/2/3", "1/-2", "1/+2", "1/02", "1/00", "01/2", "-0/5", "--1/2", "1 /2", "1/ 2", "1/a", "a/1", "1\u20442",
		"1.", ".5", "-.5", "-1.", "1..5", "1.5.2", "1.-5", "1.+5", "01.5", "00.5", "-0.0", "-0.00", "1.5a", "1.a", "a.5", "1. 5", "0.x5", "0.0-5", "1.5/2", "1/2.5", "1/.5", "1./2", "1.5-",
		// What a text is goes before how long it is.
		long + "/0", long + "/01", long + "/", "/" + long, "-0/" + long, "0" + long, long + "x", "0/0" + long, "1/" + long + "x", long + ".", "." + long, "0" + long + ".5", "1." + long + "x", "-0." + strings.Repeat("0", api.MaxDigits), long + "/" + long + "/1", "1.5/" + long, long + "/1.5", "--" + long,
	} {
		a, e := rats.Parse(s)
		wantNone(t, s, a, e, api.ErrForm)
	}
}

// TestParseShort: each text of few signs is read, if it has the form, and else is not.
func TestParseShort(t *testing.T) { // P3.6
	form := regexp.MustCompile(`^-?(0|[1-9][0-9]*)(/[1-9][0-9]*|\.[0-9]+)?$`)
	nought := regexp.MustCompile(`^-[0.]+(/.*)?$`)
	texts := []string{""}
	for len(texts) > 0 {
		s := texts[0]
		texts = texts[1:]
		a, e := rats.Parse(s)
		if form.MatchString(s) && !nought.MatchString(s) {
			want(t, s, a, bigOf(read(t, s)))
			if e != api.OK {
				t.Errorf("Parse(%s): %d", s, e)
			}
		} else {
			wantNone(t, s, a, e, api.ErrForm)
		}
		if len(s) < 6 {
			for _, c := range "014-/." {
				texts = append(texts, s+string(c))
			}
		}
	}
}

func TestParseLimit(t *testing.T) { // P3.6
	nines, noughts := strings.Repeat("9", api.MaxDigits), strings.Repeat("0", api.MaxDigits)
	for _, s := range []string{
		nines + "9", "-" + nines + "9", nines + "9/1", "1/" + nines + "9", "0/" + nines + "9", "-1/9" + nines, nines + "9/9" + nines,
		nines + ".9", nines + ".0", "9." + nines, "1." + noughts, "0." + noughts, "0." + noughts[1:] + "5", "-0." + noughts[1:] + "5", "1" + noughts + ".0", "-" + nines[100:] + "." + nines[:101], nines + nines + "." + nines,
	} {
		a, e := rats.Parse(s)
		wantNone(t, s, a, e, api.ErrLimit)
	}
}

func TestLaws(t *testing.T) { // P3.7
	l := fractions(t)
	for i, a := range l {
		for j, b := range l {
			c := l[(i*7+j*3)%len(l)]
			law(t, "sum, the other way about", rats.Add(a, b), rats.Add(b, a))
			law(t, "product, the other way about", rats.Mul(a, b), rats.Mul(b, a))
			law(t, "sum of three", rats.Add(rats.Add(a, b), c), rats.Add(a, rats.Add(b, c)))
			law(t, "product of three", rats.Mul(rats.Mul(a, b), c), rats.Mul(a, rats.Mul(b, c)))
			law(t, "product of a sum", rats.Mul(rats.Add(a, b), c), rats.Add(rats.Mul(a, c), rats.Mul(b, c)))
			law(t, "less, and back", rats.Add(rats.Sub(a, b), b), a)
			if rats.Cmp(a, b) != rats.Sign(rats.Sub(a, b)) {
				t.Errorf("Cmp(%v, %v): %d", a, b, rats.Cmp(a, b))
			}
			if rats.Sign(b) != 0 {
				q, _ := rats.Div(a, b)
				law(t, "by it, and times it", rats.Mul(q, b), a)
			}
		}
		law(t, "and 0", rats.Add(a, rats.Of(0)), a)
		law(t, "times 1", rats.Mul(a, rats.Of(1)), a)
		law(t, "times 0", rats.Mul(a, rats.Of(0)), rats.Of(0))
		law(t, "less itself", rats.Sub(a, a), rats.Of(0))
		again, e := rats.Parse(rats.Text(a))
		law(t, "what is read", again, a)
		if e != api.OK {
			t.Errorf("Parse(%s): %d", rats.Text(a), e)
		}
	}
}

func law(t *testing.T, what string, a, b api.Rat) {
	t.Helper()
	if !same(a, b) || !rats.Check(a) {
		t.Errorf("%s: %v %v", what, a, b)
	}
}

// TestMemory: what is handed in stays as it is, its spare room too, and no answer's list shares memory with it, or with another one.
func TestMemory(t *testing.T) { // R4
	l := append(fractions(t), mayNot()...)
	for _, x := range l {
		for _, y := range l {
			a, b := roomy(x), roomy(y)
			checkMemory(t, a, b)
			checkMemory(t, a, a)
			if !sameRoom(a, roomy(x)) || !sameRoom(b, roomy(y)) {
				t.Fatalf("what was handed in: %v %v", x, y)
			}
		}
	}
}

// checkMemory clears each list that is answered, with its spare room, and asks whether that is to be seen in another one.
func checkMemory(t *testing.T, a, b api.Rat) {
	t.Helper()
	by, _ := rats.Div(a, b)
	made, _ := rats.Make(a.Num, b.Num)
	whole, _ := rats.Make(a.Num, ints.Of(1))
	fractions := []api.Rat{rats.Add(a, b), rats.Sub(a, b), rats.Sub(b, a), rats.Mul(a, b), rats.Add(a, rats.Of(0)), rats.Add(rats.Of(0), a), rats.Mul(a, rats.Of(1)), rats.Of(1), by, made, whole}
	rats.Cmp(a, b)
	rats.Sign(a)
	rats.Whole(a)
	rats.Text(a)
	lists := []api.Nat{rats.Floor(a).N, rats.Floor(a).N}
	for _, z := range fractions {
		lists = append(lists, z.Num.N, z.Den)
	}
	var before []api.Nat
	for _, z := range lists {
		before = append(before, slices.Clone(z))
	}
	for i, z := range lists {
		if !slices.Equal(z, before[i]) {
			t.Errorf("list %d of the answers to %v, %v shares memory", i, a, b)
		}
		clear(z[:cap(z)])
	}
}

// roomy is a copy with spare room, in which something stands.
func roomy(a api.Rat) api.Rat {
	return api.Rat{Num: api.Int{Neg: a.Num.Neg, N: roomyNat(a.Num.N)}, Den: roomyNat(a.Den)}
}

func roomyNat(a api.Nat) api.Nat {
	room := append(slices.Clone(a), 77, 78, 79)
	return room[: len(a) : len(a)+3]
}

func sameRoom(a, b api.Rat) bool {
	return same(a, b) && nats.Cmp(a.Num.N[:cap(a.Num.N)], b.Num.N[:cap(b.Num.N)]) == 0 && nats.Cmp(a.Den[:cap(a.Den)], b.Den[:cap(b.Den)]) == 0
}
