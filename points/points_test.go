package points_test

import (
	"math/big"
	"math/rand"
	"slices"
	"strconv"
	"strings"
	"testing"

	"assayer/api"
	"assayer/models"
	"assayer/points"
	"assayer/rats"
)

// example is the chapter's.
const example = "most x + 2 y; vars x, y whole free; rows x + y <= 4; end"

// model is the one of a text.
func model(t *testing.T, s string) api.Model {
	t.Helper()
	m, at, e := models.Parse(s)
	if e != api.OK {
		t.Fatalf("%q is no model's text: %d %d", s, at, e)
	}
	return m
}

// point is the fractions of texts, with blanks between them.
func point(t *testing.T, s string) []api.Rat {
	t.Helper()
	var x []api.Rat
	for _, w := range strings.Fields(s) {
		a, e := rats.Parse(w)
		if e != api.OK {
			t.Fatalf("%q is no fraction's text: %d", w, e)
		}
		x = append(x, a)
	}
	return x
}

// bigOf is a fraction, as another library has it; 0 of one that may not be.
func bigOf(a api.Rat) *big.Rat {
	q, _ := new(big.Rat).SetString(rats.Text(a))
	return q
}

func ratOf(q *big.Rat) api.Rat {
	nat := func(n *big.Int) (a api.Nat) {
		for n = new(big.Int).Abs(n); n.Sign() > 0; n.Rsh(n, 32) {
			a = append(a, uint32(new(big.Int).And(n, big.NewInt(1<<32-1)).Uint64()))
		}
		return a
	}
	return api.Rat{Num: api.Int{Neg: q.Sign() < 0, N: nat(q.Num())}, Den: nat(q.Denom())}
}

func isNone(a api.Rat) bool { return !a.Num.Neg && len(a.Num.N) == 0 && len(a.Den) == 0 }

// mayNot are fractions that may not be.
func mayNot() []api.Rat {
	one, two := api.Nat{1}, api.Nat{2}
	return []api.Rat{
		{}, {Num: api.Int{N: one}}, {Num: api.Int{N: one}, Den: api.Nat{0}}, {Den: two}, {Num: api.Int{N: two}, Den: api.Nat{4}}, {Num: api.Int{Neg: true, N: api.Nat{3}}, Den: api.Nat{3}},
		{Num: api.Int{Neg: true}, Den: one}, {Num: api.Int{N: api.Nat{0}}, Den: one}, {Num: api.Int{N: api.Nat{1, 0}}, Den: one}, {Num: api.Int{N: one}, Den: api.Nat{2, 0}},
	}
}

// fits tells, by another library, whether a point does.
func fits(m api.Model, x []api.Rat) bool {
	ok := true
	for i, v := range m.Vars {
		a := bigOf(x[i])
		ok = ok && !(v.Whole && !a.IsInt()) && !(v.HasLow && a.Cmp(bigOf(v.Low)) < 0) && !(v.HasHigh && a.Cmp(bigOf(v.High)) > 0)
	}
	for _, r := range m.Rows {
		side := together(r.Coef, x).Cmp(bigOf(r.Right))
		ok = ok && !(side < 0 && r.Kind != api.KiLess) && !(side > 0 && r.Kind != api.KiMore)
	}
	return ok
}

// together is the sum of the products, place by place, by another library.
func together(l, x []api.Rat) *big.Rat {
	sum := new(big.Rat)
	for i, a := range l {
		sum.Add(sum, new(big.Rat).Mul(bigOf(a), bigOf(x[i])))
	}
	return sum
}

func wantFits(t *testing.T, m api.Model, x []api.Rat, want bool) {
	t.Helper()
	if ok, e := points.Fits(m, x); ok != want || e != api.OK {
		s, _ := models.Text(m)
		t.Errorf("Fits(%q, %v): %t %d, but it is %t", s, x, ok, e, want)
	}
}

func wantValue(t *testing.T, m api.Model, x []api.Rat, want *big.Rat) {
	t.Helper()
	if a, e := points.Value(m, x); !rats.Check(a) || bigOf(a).Cmp(want) != 0 || e != api.OK {
		t.Errorf("Value(%v, %v): %v %d, but it is %s", m.Goal, x, a, e, want)
	}
}

func wantRefused(t *testing.T, what string, m api.Model, x []api.Rat) {
	t.Helper()
	if ok, e := points.Fits(m, x); ok || e != api.ErrArg {
		t.Errorf("%s: Fits: %t %d", what, ok, e)
	}
	if a, e := points.Value(m, x); !isNone(a) || e != api.ErrArg {
		t.Errorf("%s: Value: %v %d", what, a, e)
	}
}

func TestFits(t *testing.T) { // P8.1
	const tiny = "1/1000000000000000000000000000000"
	long := strings.Repeat("9", api.MaxDigits)
	for s, l := range map[string]map[string]bool{
		example: {"1 3": true, "1/2 3": true, "1 1/2": false, "-1 0": false, "2 3": false, "0 4": true, "0 -7": true, "-" + tiny + " 0": false, tiny + " 4": false},
		// Bounds are allowed themselves.
		"most; vars x; end":            {"0": true, "7": true, long: true, "-" + tiny: false, "-1": false},
		"most; vars x free; end":       {"0": true, "-" + long: true, long: true, "1/3": true},
		"most; vars x [1/3, 5/2]; end": {"1/3": true, "5/2": true, "1": true, "0": false, "1/4": false, "3": false, "-1": false, "333333333/1000000000": false, "2500000001/1000000000": false},
		"most; vars x [-2,]; end":      {"-2": true, "0": true, long: true, "-3": false, "-2000001/1000000": false},
		"most; vars x [, -2]; end":     {"-2": true, "-" + long: true, "0": false, "2": false, "-1999999/1000000": false},
		"most; vars x [, 0]; end":      {"0": true, "-1": true, tiny: false},
		"most; vars x [3, 3]; end":     {"3": true, "2": false, "4": false},
		"most; vars x [1, 0]; end":     {"1": false, "0": false, "1/2": false, "2": false, "-1": false},
		// Whole says so of its own var alone, and bounds hold beside it.
		"most; vars x whole free; end":         {"0": true, "-5": true, long: true, "1/2": false, "-1/2": false, long + "/2": false, tiny: false},
		"most; vars x whole [1/2, 5/2]; end":   {"1": true, "2": true, "0": false, "3": false, "1/2": false, "5/2": false},
		"most; vars x free, y whole free; end": {"1/2 1": true, "1 1/2": false, "1/2 1/2": false, "1 1": true},
		// Each kind of row, on both of its sides and in between.
		"most; vars x free; rows 2 x <= 3; end":  {"3/2": true, "1": true, "-9": true, "2": false, "1500000001/1000000000": false},
		"most; vars x free; rows 2 x = 3; end":   {"3/2": true, "1": false, "2": false, "-3/2": false, "1500000001/1000000000": false, "1499999999/1000000000": false},
		"most; vars x free; rows 2 x >= 3; end":  {"3/2": true, "2": true, "9": true, "1": false, "1499999999/1000000000": false},
		"most; vars x free; rows -x <= -3; end":  {"3": true, "4": true, "2": false, "-3": false},
		"most; vars x free; rows -x >= 1/2; end": {"-1/2": true, "-1": true, "0": false, "1/2": false},
		// Rows of noughts hold of all points, or of none.
		"most; vars x free; rows <= 0; = 0; >= 0; end": {"0": true, "5": true, "-1/2": true},
		"most; vars x free; rows <= -1; end":           {"0": false, "-1": false, "-5": false},
		"most; vars x free; rows = 1; end":             {"0": false, "1": false},
		"most; vars x free; rows >= 1; end":            {"0": false, "1": false, "5": false},
		// The goal asks nothing of a point.
		"least -100 x; vars x free; end": {"0": true, "100": true, "-100": true},
	} {
		m := model(t, s)
		for x, want := range l {
			wantFits(t, m, point(t, x), want)
			m.Most = !m.Most
			wantFits(t, m, point(t, x), want)
		}
	}
}

// TestFitsEach: each var and each row is asked, wherever it stands.
func TestFitsEach(t *testing.T) { // P8.1
	var vars, rows []string
	for i := range api.MaxVars {
		vars = append(vars, "x"+strconv.Itoa(i)+" whole [-2, 2]")
	}
	for i := range api.MaxRows {
		at := strconv.Itoa(i % api.MaxVars)
		rows = append(rows, "x"+at+[]string{"<= 1;", ">= -1;"}[i/api.MaxVars])
	}
	m := model(t, "most x0; vars "+strings.Join(vars, ", ")+"; rows "+strings.Join(rows, " ")+" end")
	x := point(t, strings.Repeat("0 ", api.MaxVars))
	wantFits(t, m, x, true)
	loose := m
	loose.Rows = nil
	for i := range x {
		for s, want := range map[string][2]bool{"1": {true, true}, "-1": {true, true}, "2": {false, true}, "-2": {false, true}, "3": {false, false}, "-3": {false, false}, "1/2": {false, false}} {
			other := slices.Clone(x)
			other[i] = point(t, s)[0]
			wantFits(t, m, other, want[0])
			wantFits(t, loose, other, want[1])
		}
	}
}

// some are models of two vars: all that may be asked of each, and of both.
func some(t *testing.T) []api.Model {
	t.Helper()
	var out []api.Model
	for _, x := range []string{"x", "x whole", "x free", "x whole free", "x [-1/2, 3/2]", "x whole [, 1]", "x [1, -1]"} {
		for _, y := range []string{"y", "y whole [-1, 2]", "y [1/2,]"} {
			for _, rows := range []string{"", "x + y <= 1;", "2 x - 1/2 y = 1;", "x + y >= 0;", "y >= 1/2; x - y <= 1/2;", "-x - 3 y >= -2; 0 x <= 0; y = 1;"} {
				s := "x - 2/3 y; vars " + x + ", " + y + "; rows " + rows + " end"
				out = append(out, model(t, "most "+s), model(t, "least "+s))
			}
		}
	}
	return out
}

// drawn is a model of so many vars and rows, and a point that is near to what fits it; always the same of one r.
func drawn(r *rand.Rand, vars, rows int) (api.Model, []api.Rat) {
	part := func(most, den int64) *big.Rat { return big.NewRat(r.Int63n(2*most+1)-most, 1+r.Int63n(den)) }
	m := api.Model{Most: r.Intn(2) == 0}
	var x []api.Rat
	for i := range vars {
		v := api.Var{Name: "x" + strconv.Itoa(i), Whole: r.Intn(4) == 0, Low: rats.Of(0), High: rats.Of(0)}
		a := part(9, 3)
		if v.Whole && r.Intn(4*vars) > 0 {
			a.SetInt(a.Num())
		}
		x = append(x, ratOf(a))
		if v.HasLow = r.Intn(2) == 0; v.HasLow {
			v.Low = ratOf(new(big.Rat).Sub(a, big.NewRat(r.Int63n(int64(5*vars))-1, 2)))
		}
		if v.HasHigh = r.Intn(2) == 0; v.HasHigh {
			v.High = ratOf(new(big.Rat).Add(a, big.NewRat(r.Int63n(int64(5*vars))-1, 3)))
		}
		m.Vars, m.Goal = append(m.Vars, v), append(m.Goal, ratOf(part(1000, 7)))
	}
	for range rows {
		var l []api.Rat
		for range vars {
			l = append(l, ratOf(part(5, 4)))
		}
		kind, right := api.Kind(1+r.Intn(3)), together(l, x)
		if far := big.NewRat(r.Int63n(int64(5*rows))-1, 5); kind == api.KiLess {
			right.Add(right, far)
		} else if kind == api.KiMore {
			right.Sub(right, far)
		} else if r.Intn(5*rows) == 0 {
			right.Add(right, big.NewRat(1, 1+r.Int63n(1000000)))
		}
		m.Rows = append(m.Rows, api.Row{Coef: l, Kind: kind, Right: ratOf(right)})
	}
	return m, x
}

// eachSome hands on models, each with a point.
func eachSome(t *testing.T, do func(m api.Model, x []api.Rat)) {
	t.Helper()
	l := point(t, "-1 -1/2 0 1/2 1 3/2 2")
	for _, m := range some(t) {
		for _, a := range l {
			for _, b := range l {
				do(m, []api.Rat{a, b})
			}
		}
	}
	r := rand.New(rand.NewSource(8))
	for i := range 600 {
		do(drawn(r, 1+i%12, i/12%9))
	}
}

func TestSome(t *testing.T) { // P8.1, P8.2
	counts := map[bool]int{}
	eachSome(t, func(m api.Model, x []api.Rat) {
		t.Helper()
		want := fits(m, x)
		counts[want]++
		wantFits(t, m, x, want)
		wantValue(t, m, x, together(m.Goal, x))
	})
	if counts[true] < 500 || counts[false] < 500 {
		t.Errorf("too few of one kind: %v", counts)
	}
}

func TestValue(t *testing.T) { // P8.2
	for s, l := range map[string]map[string]string{
		// A point has its value, whether it fits or not.
		example:                                      {"1/2 3": "13/2", "1 3": "7", "0 0": "0", "-1 1/2": "0", "100 100": "300"},
		"least -x + 1/3 y; vars x, y; end":           {"1 3": "0", "3 1": "-8/3", "-1 -1": "2/3"},
		"most; vars x, y; rows x + y <= -1; end":     {"5 7": "0"},
		"least 2 z; vars x, y, z whole [0, 1]; end":  {"9 9 1/2": "1", "0 0 -3": "-6"},
		"most 4294967296 x; vars x [, 1]; end":       {"4294967296": "18446744073709551616", "1/4294967296": "1"},
		"most x + y + z; vars x, y, z; rows = 0;end": {"1/2 1/3 1/6": "1", "1/2 1/3 -5/6": "0"},
	} {
		m := model(t, s)
		for x, want := range l {
			wantValue(t, m, point(t, x), bigOf(point(t, want)[0]))
			m.Most = !m.Most
			wantValue(t, m, point(t, x), bigOf(point(t, want)[0]))
		}
	}
}

// TestLong: MaxDigits is no limit of a point.
func TestLong(t *testing.T) { // P8.1, P8.2
	far := new(big.Int).Exp(big.NewInt(10), big.NewInt(3*api.MaxDigits), nil)
	great, small := new(big.Rat).SetInt(far), new(big.Rat).SetFrac(big.NewInt(1), far)
	m := model(t, "most x + y; vars x whole, y; rows x >= 1; y <= 1; end")
	for _, c := range []struct {
		x, y *big.Rat
		want bool
	}{{great, small, true}, {great, great, false}, {small, small, false}, {great, new(big.Rat).Neg(small), false}, {great, new(big.Rat).Sub(big.NewRat(1, 1), small), true}, {great, new(big.Rat).Add(big.NewRat(1, 1), small), false}, {new(big.Rat).Add(great, small), small, false}} {
		x := []api.Rat{ratOf(c.x), ratOf(c.y)}
		wantFits(t, m, x, c.want)
		wantValue(t, m, x, new(big.Rat).Add(c.x, c.y))
	}
}

func TestWrongPoint(t *testing.T) { // P8.1, P8.2
	for _, s := range []string{"", "0", "1", "0 0 0", "1 3 0", strings.Repeat("0 ", api.MaxVars+1)} {
		wantRefused(t, s, model(t, example), point(t, s))
	}
	for _, odd := range mayNot() {
		// Whether the others would fit changes nothing, nor does a model that looks at none of them.
		for _, s := range []string{"-1 1/2", "1 3", "0 0"} {
			for _, m := range []api.Model{model(t, example), model(t, "least; vars x free, y free; end")} {
				for i := range 2 {
					x := point(t, s)
					x[i] = odd
					wantRefused(t, "a fraction that may not be", m, x)
				}
			}
		}
		wantRefused(t, "fractions that may not be", model(t, example), []api.Rat{odd, odd})
		wantRefused(t, "one too many that may not be", model(t, example), append(point(t, "1 3"), odd))
	}
}

func TestWrongModel(t *testing.T) { // P8.1, P8.2
	x := point(t, "1 3")
	for what, change := range map[string]func(m *api.Model){
		"no var":                    func(m *api.Model) { m.Vars = nil },
		"a var too few":             func(m *api.Model) { m.Vars = m.Vars[:1] },
		"no goal":                   func(m *api.Model) { m.Goal = nil },
		"a short goal":              func(m *api.Model) { m.Goal = m.Goal[:1] },
		"a long goal":               func(m *api.Model) { m.Goal = point(t, "1 1 1") },
		"a short row":               func(m *api.Model) { m.Rows[0].Coef = m.Rows[0].Coef[:1] },
		"a long row":                func(m *api.Model) { m.Rows[0].Coef = point(t, "1 1 1") },
		"a row of no kind":          func(m *api.Model) { m.Rows[0].Kind = api.KiNone },
		"a row of another kind":     func(m *api.Model) { m.Rows[0].Kind = api.KiMore + 1 },
		"a name twice":              func(m *api.Model) { m.Vars[1].Name = "x" },
		"a name that may not be":    func(m *api.Model) { m.Vars[0].Name = "rows" },
		"no name":                   func(m *api.Model) { m.Vars[0].Name = "" },
		"a bound not asked for":     func(m *api.Model) { m.Vars[0].High = rats.Of(9) },
		"too many rows":             func(m *api.Model) { m.Rows = slices.Repeat(m.Rows, api.MaxRows+1) },
		"too many digits":           func(m *api.Model) { m.Goal[0] = power(api.MaxDigits) },
		"too many digits, in a row": func(m *api.Model) { m.Rows[0].Right = power(api.MaxDigits) },
	} {
		m := model(t, example)
		change(&m)
		wantRefused(t, what, m, x)
		wantRefused(t, what+", and a point that does not fit", m, point(t, "-1 1/2"))
	}
	for _, odd := range mayNot() {
		for i, change := range []func(m *api.Model){
			func(m *api.Model) { m.Goal[1] = odd }, func(m *api.Model) { m.Rows[0].Coef[0] = odd }, func(m *api.Model) { m.Rows[0].Right = odd },
			func(m *api.Model) { m.Vars[0].Low = odd }, func(m *api.Model) { m.Vars[1].High = odd }, func(m *api.Model) { m.Vars[1].Low = odd },
		} {
			m := model(t, example)
			change(&m)
			wantRefused(t, "a model with a fraction that may not be, "+strconv.Itoa(i), m, x)
		}
	}
	// A point of as many as there are vars, none of either, or too many of both.
	wantRefused(t, "none of both", api.Model{}, nil)
	wantRefused(t, "none of both, and rows", api.Model{Rows: []api.Row{{Kind: api.KiSame, Right: rats.Of(0)}}}, []api.Rat{})
	wantRefused(t, "the zero struct", api.Model{}, x)
	many := api.Model{}
	for i := range api.MaxVars + 1 {
		many.Vars = append(many.Vars, api.Var{Name: "x" + strconv.Itoa(i), Low: rats.Of(0), High: rats.Of(0)})
	}
	many.Goal = slices.Repeat(point(t, "1"), len(many.Vars))
	wantRefused(t, "too many of both", many, many.Goal)
	many.Vars, many.Goal = many.Vars[1:], many.Goal[1:]
	wantFits(t, many, many.Goal, true)
	wantValue(t, many, many.Goal, big.NewRat(api.MaxVars, 1))
}

// power is ten to the power of n.
func power(n int) api.Rat {
	return ratOf(new(big.Rat).SetInt(new(big.Int).Exp(big.NewInt(10), big.NewInt(int64(n)), nil)))
}

// values are in order, no two the same.
func values(t *testing.T) []api.Rat {
	t.Helper()
	return point(t, "-18446744073709551616 -18446744073709551615 -2 -1 -1/2 -1/3 -1/18446744073709551616 0 1/18446744073709551616 1/3 333333333/999999998 1/2 1 2 4294967295 4294967296 18446744073709551616")
}

func TestBetter(t *testing.T) { // P8.3
	// The model need not be one that may be: nothing counts but what is sought.
	odd := api.Model{Vars: []api.Var{{Name: "end"}}, Goal: mayNot(), Rows: []api.Row{{}}}
	for _, m := range []api.Model{model(t, example), {}, odd} {
		for i, a := range values(t) {
			for j, b := range values(t) {
				if m.Most = true; points.Better(m, a, b) != (i > j) {
					t.Errorf("%v, than %v, of the most", a, b)
				}
				if m.Most = false; points.Better(m, a, b) != (i < j) {
					t.Errorf("%v, than %v, of the least", a, b)
				}
			}
		}
	}
}

func TestBetterZero(t *testing.T) { // P8.3
	for _, odd := range mayNot() {
		for _, m := range []api.Model{{Most: true}, {}} {
			for _, a := range append(values(t), mayNot()...) {
				if points.Better(m, odd, a) != points.Better(m, rats.Of(0), a) || points.Better(m, a, odd) != points.Better(m, a, rats.Of(0)) {
					t.Errorf("%v is as 0, against %v", odd, a)
				}
			}
			if points.Better(m, odd, odd) || points.Better(m, odd, rats.Of(0)) || points.Better(m, rats.Of(0), odd) || points.Better(m, odd, rats.Of(1)) == m.Most || points.Better(m, rats.Of(1), odd) != m.Most || points.Better(m, odd, rats.Of(-1)) != m.Most {
				t.Errorf("%v is as 0", odd)
			}
		}
	}
}

func TestLaws(t *testing.T) { // P8.4
	turn := 0
	eachSome(t, func(m api.Model, x []api.Rat) {
		t.Helper()
		turn++
		row := api.Row{Coef: slices.Clone(m.Goal), Kind: api.Kind(1 + turn%3), Right: rats.Of(int64(turn%7 - 3))}
		more := m
		more.Rows = append(slices.Clone(m.Rows), row)
		ahead, _ := points.Fits(m, x)
		behind, e := points.Fits(more, x)
		if behind && !ahead || e != api.OK {
			t.Errorf("%v fits with a row more: %d", x, e)
		}
		a, _ := points.Value(m, x)
		if b := row.Right; points.Better(m, a, b) && points.Better(m, b, a) || points.Better(m, a, b) == points.Better(m, b, a) && rats.Cmp(a, b) != 0 {
			t.Errorf("%v and %v: none is better, or both", a, b)
		}
	})
}

// roomy is a copy with spare room, in which something stands.
func roomy(l []api.Rat) []api.Rat {
	nat := func(a api.Nat) api.Nat { return append(slices.Clone(a), 77, 0)[:len(a)] }
	var out []api.Rat
	for _, a := range append(slices.Clone(l), rats.Of(7), api.Rat{}) {
		out = append(out, api.Rat{Num: api.Int{Neg: a.Num.Neg, N: nat(a.Num.N)}, Den: nat(a.Den)})
	}
	return out[:len(l)]
}

// flat is all that stands in a list, and in its spare room.
func flat(l []api.Rat) []uint32 {
	var out []uint32
	for _, a := range l[:cap(l)] {
		sign := uint32(0)
		if a.Num.Neg {
			sign = 1
		}
		out = append(append(append(out, sign), a.Num.N[:cap(a.Num.N)]...), a.Den[:cap(a.Den)]...)
	}
	return out
}

// lists are all fractions of a model, by lists.
func lists(m api.Model) [][]api.Rat {
	out := [][]api.Rat{m.Goal}
	for i := range m.Vars {
		out = append(out, []api.Rat{m.Vars[i].Low, m.Vars[i].High})
	}
	for _, r := range m.Rows {
		out = append(out, r.Coef, []api.Rat{r.Right})
	}
	return out
}

func flatModel(m api.Model) []uint32 { return flat(slices.Concat(lists(m)...)) }

func TestMemory(t *testing.T) { // R4
	for _, s := range []string{example, "most x; vars x; end", "least 1/2 x + y; vars x [0, 3], y whole [-1, 5]; rows x + 1/3 y = 2; x - y >= -3; end", "most; vars x free; rows x = 1/2; end"} {
		m := model(t, s)
		x := roomy(point(t, "1 3 5")[:len(m.Vars)])
		m.Goal = roomy(m.Goal)
		for i := range m.Rows {
			m.Rows[i].Coef = roomy(m.Rows[i].Coef)
		}
		modelWas, xWas := flatModel(m), flat(x)
		goalWas := flat(m.Goal)
		points.Fits(m, x)
		a, _ := points.Value(m, x)
		b, _ := points.Value(m, x)
		points.Better(m, x[0], x[0])
		if !slices.Equal(flatModel(m), modelWas) || !slices.Equal(flat(x), xWas) || !slices.Equal(flat(m.Goal), goalWas) {
			t.Errorf("%q: what was handed in is changed", s)
		}
		// What is written over one answer, and its spare room, is to be seen nowhere else.
		text := rats.Text(b)
		for _, l := range []api.Nat{a.Num.N, a.Den} {
			for i := range l[:cap(l)] {
				l[:cap(l)][i] = 99
			}
		}
		if rats.Text(b) != text || !slices.Equal(flatModel(m), modelWas) || !slices.Equal(flat(x), xWas) {
			t.Errorf("%q: the value shares memory", s)
		}
	}
}

// TestGreat: the greatest models are asked in time.
func TestGreat(t *testing.T) { // R1
	r := rand.New(rand.NewSource(81))
	most := new(big.Int).Exp(big.NewInt(10), big.NewInt(api.MaxDigits), nil)
	part := func() api.Rat {
		den := new(big.Int).Rand(r, most)
		return ratOf(new(big.Rat).SetFrac(new(big.Int).Rand(r, most), den.SetBit(den, 0, 1)))
	}
	m, x := drawn(r, api.MaxVars, api.MaxRows)
	for i := range x {
		m.Vars[i].HasLow, m.Vars[i].HasHigh, m.Vars[i].Whole, m.Vars[i].Low, m.Vars[i].High = false, false, false, rats.Of(0), rats.Of(0)
		x[i], m.Goal[i] = part(), part()
		for _, row := range m.Rows {
			row.Coef[i] = part()
		}
	}
	for i := range m.Rows {
		m.Rows[i].Kind, m.Rows[i].Right = api.KiMore, rats.Of(-1)
	}
	wantFits(t, m, x, true)
	wantValue(t, m, x, together(m.Goal, x))
	last := &m.Rows[api.MaxRows-1]
	last.Kind = api.KiLess
	wantFits(t, m, x, false)
}
