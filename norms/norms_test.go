package norms_test

import (
	"math/big"
	"math/rand"
	"slices"
	"strconv"
	"strings"
	"testing"

	"assayer/api"
	"assayer/models"
	"assayer/norms"
	"assayer/points"
	"assayer/rats"
)

// example is the chapter's.
const example = "most x + 2 y; vars x, y whole [-1, 3]; rows x + y = 4; end"

// mostRows is how many rows a norm has at most.
const mostRows = 192

// model is the one of a text.
func model(t *testing.T, s string) api.Model {
	t.Helper()
	m, at, e := models.Parse(s)
	if e != api.OK {
		t.Fatalf("%q is no model's text: %d %d", s, at, e)
	}
	return m
}

// normOf is the norm of a model that may be.
func normOf(t *testing.T, m api.Model) api.Norm {
	t.Helper()
	n, e := norms.Of(m)
	if e != api.OK {
		t.Fatalf("%v has no norm: %d", m, e)
	}
	return n
}

// list is the fractions of texts, with blanks between them.
func list(t *testing.T, s string) []api.Rat {
	t.Helper()
	var l []api.Rat
	for _, w := range strings.Fields(s) {
		a, e := rats.Parse(w)
		if e != api.OK {
			t.Fatalf("%q is no fraction's text: %d", w, e)
		}
		l = append(l, a)
	}
	return l
}

// norm is one of texts: rows, right sides and goal; and of the vars that must be whole.
func norm(t *testing.T, left, right, goal string, whole ...bool) api.Norm {
	t.Helper()
	n := api.Norm{Right: list(t, right), Goal: list(t, goal), Whole: whole}
	for _, s := range strings.Split(left, ";") {
		if l := list(t, s); len(l) > 0 {
			n.Left = append(n.Left, l)
		}
	}
	return n
}

// told is a list, as texts; of what may not be it says so.
func told(l []api.Rat) string {
	var out []string
	for _, a := range l {
		if !rats.Check(a) {
			out = append(out, "what may not be")
			continue
		}
		out = append(out, rats.Text(a))
	}
	return strings.Join(out, " ")
}

// toldNorm is all of a norm.
func toldNorm(n api.Norm) string {
	var left []string
	for _, l := range n.Left {
		left = append(left, told(l))
	}
	out := []string{strings.Join(left, "; "), told(n.Right), told(n.Goal)}
	for _, w := range n.Whole {
		out = append(out, strconv.FormatBool(w))
	}
	return strings.Join(out, " | ")
}

// bigOf is a fraction, as another library has it; 0 of one that may not be.
func bigOf(a api.Rat) *big.Rat {
	q, _ := new(big.Rat).SetString(rats.Text(a))
	return q
}

func ratOf(q *big.Rat) api.Rat {
	nat := func(n *big.Int) (a api.Nat) {
		for n = new(big.Int).Abs(n); n.Sign() > 0; n.Rsh(n, 32) {
			a = append(a, uint32(new(big.Int).And(n, big.NewInt(1<<32-1)).Uint64()))
		}
		return a
	}
	return api.Rat{Num: api.Int{Neg: q.Sign() < 0, N: nat(q.Num())}, Den: nat(q.Denom())}
}

// mayNot are fractions that may not be.
func mayNot() []api.Rat {
	one, two := api.Nat{1}, api.Nat{2}
	return []api.Rat{
		{}, {Num: api.Int{N: one}}, {Num: api.Int{N: one}, Den: api.Nat{0}}, {Den: two}, {Num: api.Int{N: two}, Den: api.Nat{4}}, {Num: api.Int{Neg: true, N: api.Nat{3}}, Den: api.Nat{3}},
		{Num: api.Int{Neg: true}, Den: one}, {Num: api.Int{N: api.Nat{0}}, Den: one}, {Num: api.Int{N: api.Nat{1, 0}}, Den: one}, {Num: api.Int{N: one}, Den: api.Nat{2, 0}},
	}
}

// power is ten to the power of n.
func power(n int) api.Rat {
	return ratOf(new(big.Rat).SetInt(new(big.Int).Exp(big.NewInt(10), big.NewInt(int64(n)), nil)))
}

// less is 0 less each, by another library.
func less(l []api.Rat) []api.Rat {
	var out []api.Rat
	for _, a := range l {
		out = append(out, ratOf(new(big.Rat).Neg(bigOf(a))))
	}
	return out
}

// together is the sum of the products, place by place, by another library.
func together(l, x []api.Rat) *big.Rat {
	sum := new(big.Rat)
	for i, a := range l {
		sum.Add(sum, new(big.Rat).Mul(bigOf(a), bigOf(x[i])))
	}
	return sum
}

// expected is the norm of a model that may be, by another library.
func expected(m api.Model) api.Norm {
	var n api.Norm
	add := func(l []api.Rat, right api.Rat) {
		n.Left, n.Right = append(n.Left, l), append(n.Right, right)
	}
	for i, v := range m.Vars {
		n.Whole = append(n.Whole, v.Whole)
		one := slices.Repeat([]api.Rat{rats.Of(0)}, len(m.Vars))
		one[i] = rats.Of(1)
		if v.HasLow {
			add(less(one), less([]api.Rat{v.Low})[0])
		}
		if v.HasHigh {
			add(one, v.High)
		}
	}
	for _, r := range m.Rows {
		back := less([]api.Rat{r.Right})[0]
		switch r.Kind {
		case api.KiLess:
			add(r.Coef, r.Right)
		case api.KiMore:
			add(less(r.Coef), back)
		case api.KiSame:
			add(r.Coef, r.Right)
			add(less(r.Coef), back)
		}
	}
	if n.Goal = m.Goal; !m.Most {
		n.Goal = less(m.Goal)
	}
	return n
}

// fits tells, by another library, whether a point fits a norm that may be.
func fits(n api.Norm, x []api.Rat) bool {
	ok := true
	for i, l := range n.Left {
		ok = ok && together(l, x).Cmp(bigOf(n.Right[i])) <= 0
	}
	return ok
}

// whole tells, by another library, whether all are that must be.
func whole(n api.Norm, x []api.Rat) bool {
	ok := true
	for i, w := range n.Whole {
		ok = ok && (!w || bigOf(x[i]).IsInt())
	}
	return ok
}

func wantNorm(t *testing.T, m api.Model, want string) {
	t.Helper()
	n, e := norms.Of(m)
	if got := toldNorm(n); got != want || e != api.OK {
		t.Errorf("Of(%v): %s, %d, but it is %s", m, got, e, want)
	}
}

func wantRefused(t *testing.T, what string, m api.Model) {
	t.Helper()
	n, e := norms.Of(m)
	if e != api.ErrArg || len(n.Left) != 0 || len(n.Right) != 0 || len(n.Goal) != 0 || len(n.Whole) != 0 {
		t.Errorf("%s: Of: %v %d", what, n, e)
	}
}

func wantFits(t *testing.T, n api.Norm, x []api.Rat, want bool) {
	t.Helper()
	if norms.Fits(n, x) != want {
		t.Errorf("Fits(%s, %s): it is %t", toldNorm(n), told(x), want)
	}
}

func wantWhole(t *testing.T, n api.Norm, x []api.Rat, want bool) {
	t.Helper()
	if norms.Whole(n, x) != want {
		t.Errorf("Whole(%s, %s): it is %t", toldNorm(n), told(x), want)
	}
}

func TestOf(t *testing.T) { // P9.1
	long := strings.Repeat("9", api.MaxDigits)
	for s, want := range map[string]string{
		example: "-1 0; 0 -1; 0 1; 1 1; -1 -1 | 0 1 3 4 -4 | 1 2 | false | true",
		// Bounds: none, one, both, on both sides of 0.
		"most x; vars x; end":                                              "-1 | 0 | 1 | false",
		"most x; vars x free; end":                                         " |  | 1 | false",
		"most x; vars x whole free; end":                                   " |  | 1 | true",
		"most x; vars x [-7/2,]; end":                                      "-1 | 7/2 | 1 | false",
		"most x; vars x [5/3,]; end":                                       "-1 | -5/3 | 1 | false",
		"most x; vars x [, 5/3]; end":                                      "1 | 5/3 | 1 | false",
		"most x; vars x [, -2]; end":                                       "1 | -2 | 1 | false",
		"most x; vars x [, 0]; end":                                        "1 | 0 | 1 | false",
		"most x; vars x whole [-1/2, 9]; end":                              "-1; 1 | 1/2 9 | 1 | true",
		"most x; vars x [2, 1]; end":                                       "-1; 1 | -2 1 | 1 | false",
		"most; vars x [-" + long + ", " + long + "/7]; end":                "-1; 1 | " + long + " " + long + "/7 | 0 | false",
		"most; vars x free, y [1, 2], z whole [, 3], u whole [4,], v; end": "0 -1 0 0 0; 0 1 0 0 0; 0 0 1 0 0; 0 0 0 -1 0; 0 0 0 0 -1 | -1 2 3 -4 0 | 0 0 0 0 0 | false | false | true | true | false",
		// Rows, of each kind, with noughts too.
		"most; vars x free, y free; rows 2 x - 1/3 y <= -5; end":                                    "2 -1/3 | -5 | 0 0 | false | false",
		"most; vars x free, y free; rows 2 x - 1/3 y >= -5; end":                                    "-2 1/3 | 5 | 0 0 | false | false",
		"most; vars x free, y free; rows 2 x - 1/3 y = -5; end":                                     "2 -1/3; -2 1/3 | -5 5 | 0 0 | false | false",
		"most; vars x free, y free; rows y <= 0; end":                                               "0 1 | 0 | 0 0 | false | false",
		"most; vars x free, y free; rows -x >= 0; end":                                              "1 0 | 0 | 0 0 | false | false",
		"most; vars x free; rows = 0; end":                                                          "0; 0 | 0 0 | 0 | false",
		"most; vars x free; rows <= -3; >= 4; = 5/2; end":                                           "0; 0; 0; 0 | -3 -4 5/2 -5/2 | 0 | false",
		"most; vars x free; rows x = 1; x <= 2; x = 3; x >= 4; 2 x >= 5; x <= 6; -x = 7; end":       "1; -1; 1; 1; -1; -1; -2; 1; -1; 1 | 1 -1 2 3 -3 -4 -5 6 7 -7 | 0 | false",
		"most; vars x free; rows x <= 1; x <= 1; end":                                               "1; 1 | 1 1 | 0 | false",
		"most; vars x, y [, 2]; rows x >= 3; y = 4; end":                                            "-1 0; 0 1; -1 0; 0 1; 0 -1 | 0 2 -3 4 -4 | 0 0 | false | false",
		"most; vars x free; rows " + long + "/7 x >= " + long + "; end":                             "-" + long + "/7 | -" + long + " | 0 | false",
		"most; vars x free, y free; rows x + 18446744073709551616 y >= 1/18446744073709551616; end": "-1 -18446744073709551616 | -1/18446744073709551616 | 0 0 | false | false",
		// Goals.
		"least x + 2 y; vars x free, y free; end":             " |  | -1 -2 | false | false",
		"least -x + 1/2 z; vars x free, y free, z free; end":  " |  | 1 0 -1/2 | false | false | false",
		"most -x + 1/2 z; vars x free, y free, z free; end":   " |  | -1 0 1/2 | false | false | false",
		"least; vars x free, y whole free; end":               " |  | 0 0 | false | true",
		"least x; vars x; rows x <= 4; x >= 1; end":           "-1; 1; -1 | 0 4 -1 | -1 | false",
		"least " + long + " x; vars x whole; rows x = 1; end": "-1; 1; -1 | 0 1 -1 | -" + long + " | true",
	} {
		wantNorm(t, model(t, s), want)
	}
}

// TestOfNoughts: what is turned is 0 just as others are.
func TestOfNoughts(t *testing.T) { // P9.1
	n := normOf(t, model(t, "least x; vars x, y [0, 0]; rows y >= 0; = 0; end"))
	for _, l := range append(n.Left, n.Right, n.Goal) {
		for _, a := range l {
			if !rats.Check(a) || rats.Sign(a) == 0 && (a.Num.Neg || len(a.Num.N) != 0 || !slices.Equal(a.Den, api.Nat{1})) {
				t.Errorf("%v is no fraction that may be", a)
			}
		}
	}
}

// drawn is a model of so many vars and rows, and a point that is near to what fits it; always the same of one r.
func drawn(r *rand.Rand, vars, rows int) (api.Model, []api.Rat) {
	part := func(most, den int64) *big.Rat { return big.NewRat(r.Int63n(2*most+1)-most, 1+r.Int63n(den)) }
	m := api.Model{Most: r.Intn(2) == 0}
	var x []api.Rat
	for i := range vars {
		v := api.Var{Name: "x" + strconv.Itoa(i), Whole: r.Intn(4) == 0, Low: rats.Of(0), High: rats.Of(0)}
		a := part(9, 3)
		if v.Whole && r.Intn(4*vars) > 0 {
			a.SetInt(a.Num())
		}
		x = append(x, ratOf(a))
		if v.HasLow = r.Intn(2) == 0; v.HasLow {
			v.Low = ratOf(new(big.Rat).Sub(a, big.NewRat(r.Int63n(int64(5*vars))-1, 2)))
		}
		if v.HasHigh = r.Intn(2) == 0; v.HasHigh {
			v.High = ratOf(new(big.Rat).Add(a, big.NewRat(r.Int63n(int64(5*vars))-1, 3)))
		}
		m.Vars, m.Goal = append(m.Vars, v), append(m.Goal, ratOf(part(1000, 7)))
	}
	for range rows {
		var l []api.Rat
		for range vars {
			l = append(l, ratOf(part(5, 4)))
		}
		kind, right := api.Kind(1+r.Intn(3)), together(l, x)
		if far := big.NewRat(r.Int63n(int64(5*rows))-1, 5); kind == api.KiLess {
			right.Add(right, far)
		} else if kind == api.KiMore {
			right.Sub(right, far)
		} else if r.Intn(5*rows) == 0 {
			right.Add(right, big.NewRat(1, 1+r.Int63n(1000000)))
		}
		m.Rows = append(m.Rows, api.Row{Coef: l, Kind: kind, Right: ratOf(right)})
	}
	return m, x
}

// some are models of two vars: all that may be asked of each, and of both.
func some(t *testing.T) []api.Model {
	t.Helper()
	var out []api.Model
	for _, x := range []string{"x", "x whole", "x free", "x whole free", "x [-1/2, 3/2]", "x whole [, 1]", "x [1, -1]"} {
		for _, y := range []string{"y", "y whole [-1, 2]", "y [1/2,]"} {
			for _, rows := range []string{"", "x + y <= 1;", "2 x - 1/2 y = 1;", "x + y >= 0;", "y >= 1/2; x - y <= 1/2;", "-x - 3 y >= -2; 0 x <= 0; y = 1;"} {
				s := "x - 2/3 y; vars " + x + ", " + y + "; rows " + rows + " end"
				out = append(out, model(t, "most "+s), model(t, "least "+s))
			}
		}
	}
	return out
}

// eachSome hands on models, each with a point.
func eachSome(t *testing.T, do func(m api.Model, x []api.Rat)) {
	t.Helper()
	l := list(t, "-1 -1/2 0 1/2 1 3/2 2")
	for _, m := range some(t) {
		for _, a := range l {
			for _, b := range l {
				do(m, []api.Rat{a, b})
			}
		}
	}
	r := rand.New(rand.NewSource(9))
	for i := range 400 {
		do(drawn(r, 1+i%12, i/12%9))
	}
}

func TestSome(t *testing.T) { // P9.1, P9.3
	counts := map[[2]bool]int{}
	eachSome(t, func(m api.Model, x []api.Rat) {
		t.Helper()
		wantNorm(t, m, toldNorm(expected(m)))
		n := normOf(t, m)
		ok, are := fits(n, x), whole(n, x)
		counts[[2]bool{ok, are}]++
		wantFits(t, n, x, ok)
		wantWhole(t, n, x, are)
	})
	for _, c := range [][2]bool{{true, true}, {true, false}, {false, true}, {false, false}} {
		if counts[c] < 200 {
			t.Errorf("too few of one kind: %v", counts)
		}
	}
}

// wrongs are changes that make the example's model one that may not be.
func wrongs(t *testing.T) map[string]func(m *api.Model) {
	t.Helper()
	return map[string]func(m *api.Model){
		"no var":                    func(m *api.Model) { m.Vars = nil },
		"a var too few":             func(m *api.Model) { m.Vars = m.Vars[:1] },
		"no goal":                   func(m *api.Model) { m.Goal = nil },
		"a short goal":              func(m *api.Model) { m.Goal = m.Goal[:1] },
		"a long goal":               func(m *api.Model) { m.Goal = list(t, "1 1 1") },
		"a short row":               func(m *api.Model) { m.Rows[0].Coef = m.Rows[0].Coef[:1] },
		"a long row":                func(m *api.Model) { m.Rows[0].Coef = list(t, "1 1 1") },
		"a row of no kind":          func(m *api.Model) { m.Rows[0].Kind = api.KiNone },
		"a row of another kind":     func(m *api.Model) { m.Rows[0].Kind = api.KiMore + 1 },
		"a name twice":              func(m *api.Model) { m.Vars[1].Name = "x" },
		"a name that may not be":    func(m *api.Model) { m.Vars[0].Name = "rows" },
		"no name":                   func(m *api.Model) { m.Vars[0].Name = "" },
		"a bound not asked for":     func(m *api.Model) { m.Vars[0].High = rats.Of(9) },
		"too many rows":             func(m *api.Model) { m.Rows = slices.Repeat(m.Rows, api.MaxRows+1) },
		"too many digits":           func(m *api.Model) { m.Goal[0] = power(api.MaxDigits) },
		"too many digits, in a row": func(m *api.Model) { m.Rows[0].Right = power(api.MaxDigits) },
	}
}

func TestOfWrong(t *testing.T) { // P9.1
	for what, change := range wrongs(t) {
		m := model(t, example)
		change(&m)
		wantRefused(t, what, m)
	}
	for i, odd := range mayNot() {
		for j, change := range []func(m *api.Model){
			func(m *api.Model) { m.Goal[1] = odd }, func(m *api.Model) { m.Rows[0].Coef[0] = odd }, func(m *api.Model) { m.Rows[0].Right = odd },
			func(m *api.Model) { m.Vars[0].Low = odd }, func(m *api.Model) { m.Vars[0].High = odd }, func(m *api.Model) { m.Vars[1].High = odd },
		} {
			m := model(t, example)
			change(&m)
			wantRefused(t, "a fraction that may not be: "+strconv.Itoa(i)+", "+strconv.Itoa(j), m)
		}
	}
	wantRefused(t, "the zero struct", api.Model{})
	many := fullModel()
	many.Vars, many.Goal, many.Rows = append(many.Vars, api.Var{Name: "more", Low: rats.Of(0), High: rats.Of(0)}), append(many.Goal, rats.Of(0)), nil
	wantRefused(t, "too many of both", many)
}

// fullModel is one of as many vars and rows as may be, all of which make two of a norm.
func fullModel() api.Model {
	m := api.Model{Most: true}
	for i := range api.MaxVars {
		m.Vars = append(m.Vars, api.Var{Name: "x" + strconv.Itoa(i), Whole: true, HasLow: true, Low: rats.Of(-2), HasHigh: true, High: rats.Of(3)})
		m.Goal = append(m.Goal, rats.Of(int64(i)))
	}
	for i := range api.MaxRows {
		l := slices.Repeat([]api.Rat{rats.Of(0)}, api.MaxVars)
		l[i%api.MaxVars] = rats.Of(int64(1 + i))
		m.Rows = append(m.Rows, api.Row{Coef: l, Kind: api.KiSame, Right: rats.Of(int64(1 + i))})
	}
	return m
}

// TestFull: of the greatest model all rows are there, and each of them, and each var, is asked.
func TestFull(t *testing.T) { // P9.1, P9.2, P9.3
	m := fullModel()
	wantNorm(t, m, toldNorm(expected(m)))
	n := normOf(t, m)
	if len(n.Left) != mostRows || len(n.Right) != mostRows || !norms.Check(n) {
		t.Errorf("%d %d", len(n.Left), len(n.Right))
	}
	x := slices.Repeat(list(t, "1"), api.MaxVars)
	wantFits(t, n, x, true)
	wantWhole(t, n, x, true)
	for i := range x {
		for _, s := range []string{"1/2", "3/2"} {
			other := slices.Clone(x)
			other[i] = list(t, s)[0]
			wantFits(t, n, other, false)
			wantWhole(t, n, other, false)
		}
	}
	for i := range n.Right {
		other := n
		other.Right = slices.Clone(n.Right)
		other.Right[i] = rats.Add(bound(n.Left[i], x), rats.Of(-1))
		wantFits(t, other, x, false)
		other.Right[i] = bound(n.Left[i], x)
		wantFits(t, other, x, true)
	}
}

// bound is the least that the right side of a row may be, for x to fit it.
func bound(l, x []api.Rat) api.Rat { return ratOf(together(l, x)) }

// sized is a norm of so many rows and of rows as long, all of noughts.
func sized(rows, size int) api.Norm {
	zeros := func(n int) (l []api.Rat) {
		for range n {
			l = append(l, rats.Of(0))
		}
		return l
	}
	n := api.Norm{Right: zeros(rows), Goal: zeros(size), Whole: make([]bool, size)}
	for range rows {
		n.Left = append(n.Left, zeros(size))
	}
	return n
}

// wantAll complains, if a norm is not judged so; of one that may not be no point fits it, and none is as whole as it asks.
func wantAll(t *testing.T, what string, n api.Norm, want bool) {
	t.Helper()
	if norms.Check(n) != want {
		t.Errorf("%s: Check: it is %t", what, want)
	}
	for _, size := range []int{0, 1, 2, 3, api.MaxVars, api.MaxVars + 1, len(n.Goal)} {
		x := sized(0, size).Goal
		may := want && size == len(n.Goal)
		if ok := norms.Fits(n, x); ok != may {
			t.Errorf("%s: Fits, of %d: %t", what, size, ok)
		}
		if ok := norms.Whole(n, x); ok != may {
			t.Errorf("%s: Whole, of %d: %t", what, size, ok)
		}
	}
}

func TestCheckLengths(t *testing.T) { // P9.2, P9.3
	for _, rows := range []int{0, 1, 2, 63, 64, 65, 128, mostRows - 1, mostRows, mostRows + 1, 1000} {
		for _, size := range []int{0, 1, 2, api.MaxVars - 1, api.MaxVars, api.MaxVars + 1, 64} {
			what := strconv.Itoa(rows) + " rows of " + strconv.Itoa(size)
			wantAll(t, what, sized(rows, size), rows <= mostRows && size >= 1 && size <= api.MaxVars)
		}
	}
	for what, change := range map[string]func(n *api.Norm){
		"no goal":                    func(n *api.Norm) { n.Goal = nil },
		"a short goal":               func(n *api.Norm) { n.Goal = n.Goal[:1] },
		"a long goal":                func(n *api.Norm) { n.Goal = append(n.Goal, rats.Of(0)) },
		"no whole":                   func(n *api.Norm) { n.Whole = nil },
		"a short whole":              func(n *api.Norm) { n.Whole = n.Whole[:1] },
		"a long whole":               func(n *api.Norm) { n.Whole = append(n.Whole, false) },
		"no right":                   func(n *api.Norm) { n.Right = nil },
		"a short right":              func(n *api.Norm) { n.Right = n.Right[:2] },
		"a long right":               func(n *api.Norm) { n.Right = append(n.Right, rats.Of(0)) },
		"no left":                    func(n *api.Norm) { n.Left = nil },
		"a short left":               func(n *api.Norm) { n.Left = n.Left[:2] },
		"a long left":                func(n *api.Norm) { n.Left = append(n.Left, n.Left[0]) },
		"a first row of none":        func(n *api.Norm) { n.Left[0] = nil },
		"a last row of none":         func(n *api.Norm) { n.Left[2] = []api.Rat{} },
		"a short first row":          func(n *api.Norm) { n.Left[0] = n.Left[0][:1] },
		"a short last row":           func(n *api.Norm) { n.Left[2] = n.Left[2][:1] },
		"a long first row":           func(n *api.Norm) { n.Left[0] = append(n.Left[0], rats.Of(0)) },
		"a long last row":            func(n *api.Norm) { n.Left[2] = append(n.Left[2], rats.Of(0)) },
		"a short and a long row":     func(n *api.Norm) { n.Left[0], n.Left[1] = n.Left[0][:1], append(n.Left[1], rats.Of(0)) },
		"rows of other length":       func(n *api.Norm) { n.Left = sized(3, 3).Left },
		"rows, and all others short": func(n *api.Norm) { n.Goal, n.Whole = n.Goal[:1], n.Whole[:1] },
		"the zero struct":            func(n *api.Norm) { *n = api.Norm{} },
		"rows alone":                 func(n *api.Norm) { *n = api.Norm{Left: n.Left, Right: n.Right} },
		"rows of none alone":         func(n *api.Norm) { *n = api.Norm{Left: make([][]api.Rat, 3), Right: n.Right} },
	} {
		n := sized(3, 2)
		change(&n)
		wantAll(t, what, n, false)
	}
	none := api.Norm{Left: [][]api.Rat{}, Right: []api.Rat{}, Goal: sized(0, 2).Goal, Whole: []bool{true, false}}
	wantAll(t, "no rows", none, true)
}

// TestCheckFractions: each of them is looked at, wherever it stands; of one that may be any is taken.
func TestCheckFractions(t *testing.T) { // P9.2, P9.3
	places := func(n *api.Norm) (l []*api.Rat) {
		for _, list := range append(n.Left, n.Right, n.Goal) {
			for i := range list {
				l = append(l, &list[i])
			}
		}
		return l
	}
	n := sized(4, 3)
	if len(places(&n)) != 4*3+4+3 {
		t.Fatalf("%d places", len(places(&n)))
	}
	for i := range places(&n) {
		for _, odd := range mayNot() {
			n := sized(4, 3)
			*places(&n)[i] = odd
			wantAll(t, "in place "+strconv.Itoa(i)+" what may not be", n, false)
		}
		for _, a := range append(list(t, "1 -1/2 18446744073709551616/7"), power(3*api.MaxDigits), less([]api.Rat{power(3 * api.MaxDigits)})[0]) {
			n := sized(4, 3)
			if *places(&n)[i] = a; !norms.Check(n) {
				t.Errorf("in place %d %v may be", i, a)
			}
		}
	}
	// In the last place of the greatest one, too.
	for _, odd := range mayNot() {
		n := sized(mostRows, api.MaxVars)
		n.Left[mostRows-1][api.MaxVars-1] = odd
		wantAll(t, "in the last row what may not be", n, false)
		n = sized(mostRows, api.MaxVars)
		n.Right[mostRows-1] = odd
		wantAll(t, "as the last right side what may not be", n, false)
		n = sized(0, api.MaxVars)
		n.Goal[api.MaxVars-1] = odd
		wantAll(t, "as the last one of the goal what may not be", n, false)
	}
}

func TestFits(t *testing.T) { // P9.3
	const tiny = "1/1000000000000000000000000000000"
	of := normOf(t, model(t, example))
	for _, c := range []struct {
		n api.Norm
		l map[string]bool
	}{
		{of, map[string]bool{"1 3": true, "1 2": false, "2 2": true, "3 1": true, "4 0": true, "5 -1": true, "6 -2": false, "0 4": false, "7/2 1/2": true, "3 1/2": false, "-1 5": false, "1": false, "": false, "1 3 0": false, "0 0": false}},
		// Each row is at most what stands on its right, that itself too.
		{norm(t, "2", "3", "0", false), map[string]bool{"3/2": true, "1": true, "-9": true, "2": false, "1500000001/1000000000": false, "0": true}},
		{norm(t, "-2", "-3", "0", false), map[string]bool{"3/2": true, "2": true, "1": false, "-3/2": false, "1499999999/1000000000": false}},
		{norm(t, "1", "0", "0", false), map[string]bool{"0": true, "-" + tiny: true, tiny: false}},
		{norm(t, "1 1", "4", "0 0", false, false), map[string]bool{"2 2": true, "-2 6": true, "4 " + tiny: false, "4 -" + tiny: true, "4": false, "0": false, "0 0 0": false}},
		{norm(t, "1/2 -1/3", "1/6", "0 0", false, false), map[string]bool{"1 1": true, "1 2": true, "1 0": false, "1 0.99": false}},
		// Several, of which each must hold.
		{norm(t, "1; 1; 1", "5 3 4", "0", false), map[string]bool{"3": true, "4": false, "5": false, "6": false}},
		{norm(t, "1; -1", "2 -1", "0", false), map[string]bool{"1": true, "2": true, "3/2": true, "0": false, "3": false}},
		{norm(t, "1; -1", "1 -2", "0", false), map[string]bool{"1": false, "2": false, "3/2": false}},
		// Rows of noughts hold of all, or of none.
		{norm(t, "0", "0", "0", false), map[string]bool{"0": true, "5": true, "-1/2": true}},
		{norm(t, "0", "-1", "0", false), map[string]bool{"0": false, "5": false, "-5": false}},
		{norm(t, "0", "-"+tiny, "0", false), map[string]bool{"0": false}},
		// Where there is no row, all fit that are as long.
		{norm(t, "", "", "1 1", true, true), map[string]bool{"1/2 -7": true, "0 0": true, "0": false, "": false, "0 0 0": false}},
		// Neither the goal nor what must be whole asks anything of what fits.
		{norm(t, "1", "3", "-100", true), map[string]bool{"5/2": true, "3": true, "7/2": false, "-1/2": true}},
	} {
		for s, want := range c.l {
			wantFits(t, c.n, list(t, s), want)
		}
	}
}

func TestWhole(t *testing.T) { // P9.3
	long := strings.Repeat("9", api.MaxDigits)
	of := normOf(t, model(t, example))
	for _, c := range []struct {
		n api.Norm
		l map[string]bool
	}{
		{of, map[string]bool{"1/2 3": true, "3 1/2": false, "1 3": true, "1/2 1/2": false, "1": false, "": false, "3": false, "1 3 0": false}},
		{norm(t, "", "", "0", true), map[string]bool{"0": true, "5": true, "-5": true, long: true, "-" + long: true, "1/2": false, "-1/2": false, long + "/2": false, "1/" + long: false}},
		{norm(t, "", "", "0", false), map[string]bool{"0": true, "1/2": true, "-" + long + "/2": true, "": false, "0 0": false}},
		{norm(t, "", "", "0 0 0", true, false, true), map[string]bool{"1 1/2 3": true, "1/2 1 3": false, "1 1 1/3": false, "1/2 1 1/3": false, "0 0 0": true, "1 1": false}},
		// No row asks anything of what is whole.
		{norm(t, "1; 0", "-3 -1", "7", true), map[string]bool{"5": true, "-4": true, "1/2": false, "-7/2": false}},
	} {
		for s, want := range c.l {
			wantWhole(t, c.n, list(t, s), want)
		}
	}
}

func TestWrongPoint(t *testing.T) { // P9.3
	for _, n := range []api.Norm{normOf(t, model(t, example)), norm(t, "", "", "0 0", false, false), norm(t, "0 0", "9", "0 0", false, false)} {
		for _, odd := range mayNot() {
			for _, x := range [][]api.Rat{{odd, rats.Of(3)}, {rats.Of(1), odd}, {odd, odd}, {odd}, {rats.Of(1), rats.Of(3), odd}} {
				wantFits(t, n, x, false)
				wantWhole(t, n, x, false)
			}
		}
		x := []api.Rat{rats.Of(1), rats.Of(3)}
		wantFits(t, n, x, true)
		wantWhole(t, n, x, true)
		wantFits(t, n, nil, false)
		wantWhole(t, n, nil, false)
	}
}

// TestLong: MaxDigits is no limit of a norm, nor of a point.
func TestLong(t *testing.T) { // P9.2, P9.3
	great := power(3 * api.MaxDigits)
	small := ratOf(new(big.Rat).Inv(bigOf(great)))
	n := api.Norm{Left: [][]api.Rat{{great, small}}, Right: list(t, "2"), Goal: []api.Rat{great, small}, Whole: []bool{false, true}}
	for _, c := range []struct {
		x           []api.Rat
		fits, whole bool
	}{
		{[]api.Rat{small, great}, true, true}, {[]api.Rat{great, small}, false, false}, {[]api.Rat{rats.Add(small, rats.Mul(small, rats.Mul(small, small))), great}, false, true}, {[]api.Rat{small, rats.Add(great, rats.Of(1))}, false, true}, {[]api.Rat{small, rats.Sub(great, small)}, true, false},
	} {
		wantFits(t, n, c.x, c.fits)
		wantWhole(t, n, c.x, c.whole)
	}
}

func TestLaws(t *testing.T) { // P9.4
	counts := map[bool]int{}
	eachSome(t, func(m api.Model, x []api.Rat) {
		t.Helper()
		n := normOf(t, m)
		if !norms.Check(n) {
			t.Errorf("%s may be", toldNorm(n))
		}
		ok, e := points.Fits(m, x)
		counts[ok]++
		if ok != (norms.Fits(n, x) && norms.Whole(n, x)) || e != api.OK {
			t.Errorf("%s: %s fits only one of model and norm, %d", told(x), toldNorm(n), e)
		}
	})
	if counts[true] < 500 || counts[false] < 500 {
		t.Errorf("too few of one kind: %v", counts)
	}
	full := normOf(t, fullModel())
	if !norms.Check(full) {
		t.Error("the greatest one may be")
	}
}

// roomy is a copy with spare room, in which something stands.
func roomy(l []api.Rat) []api.Rat {
	nat := func(a api.Nat) api.Nat { return append(slices.Clone(a), 77, 0)[:len(a)] }
	var out []api.Rat
	for _, a := range append(slices.Clone(l), rats.Of(7), api.Rat{}) {
		out = append(out, api.Rat{Num: api.Int{Neg: a.Num.Neg, N: nat(a.Num.N)}, Den: nat(a.Den)})
	}
	return out[:len(l)]
}

// roomyModel is a copy of a model with spare room everywhere.
func roomyModel(m api.Model) api.Model {
	m.Goal, m.Vars, m.Rows = roomy(m.Goal), slices.Clone(m.Vars), slices.Clone(m.Rows)
	for i := range m.Vars {
		l := roomy([]api.Rat{m.Vars[i].Low, m.Vars[i].High})
		m.Vars[i].Low, m.Vars[i].High = l[0], l[1]
	}
	for i := range m.Rows {
		m.Rows[i].Coef = roomy(m.Rows[i].Coef)
		m.Rows[i].Right = roomy([]api.Rat{m.Rows[i].Right})[0]
	}
	return m
}

// flat is all that stands in lists, and in their spare room.
func flat(lists ...[]api.Rat) []uint32 {
	var out []uint32
	for _, l := range lists {
		for _, a := range l[:cap(l)] {
			sign := uint32(0)
			if a.Num.Neg {
				sign = 1
			}
			out = append(append(append(out, sign), a.Num.N[:cap(a.Num.N)]...), a.Den[:cap(a.Den)]...)
		}
	}
	return out
}

// modelLists are all fractions of a model; normLists of a norm.
func modelLists(m api.Model) [][]api.Rat {
	out := [][]api.Rat{m.Goal}
	for _, v := range m.Vars {
		out = append(out, []api.Rat{v.Low, v.High})
	}
	for _, r := range m.Rows {
		out = append(out, r.Coef, []api.Rat{r.Right})
	}
	return out
}

func normLists(n api.Norm) [][]api.Rat { return append(slices.Clone(n.Left), n.Right, n.Goal) }

// stamp writes another number into each part of a number, and its spare room, and then looks whether they are all still there; likewise into the lists themselves. So no two lists share memory.
func stamp(t *testing.T, lists [][]api.Rat) {
	t.Helper()
	var nats []api.Nat
	for _, l := range lists {
		for _, a := range l {
			nats = append(nats, a.Num.N[:cap(a.Num.N)], a.Den[:cap(a.Den)])
		}
	}
	for i, n := range nats {
		for j := range n {
			n[j] = uint32(i)
		}
	}
	for i, n := range nats {
		for _, p := range n {
			if p != uint32(i) {
				t.Errorf("number %d shares memory", i)
			}
		}
	}
	for i, l := range lists {
		for j := range l[:cap(l)] {
			l[:cap(l)][j] = api.Rat{Den: api.Nat{uint32(i)}}
		}
	}
	for i, l := range lists {
		for _, a := range l[:cap(l)] {
			if a.Den[0] != uint32(i) {
				t.Errorf("list %d shares memory", i)
			}
		}
	}
}

func TestMemory(t *testing.T) { // R4
	texts := []string{example, "most x; vars x; end", "least x; vars x free; end", "least 1/2 x + y; vars x [0, 3], y whole [-1, 5]; rows x + 1/3 y = 2; x - y >= -3; y <= 7; end", "most 18446744073709551616 x; vars x [1/18446744073709551616, 18446744073709551616]; rows 18446744073709551616 x = 18446744073709551617; x <= 18446744073709551616; end"}
	for _, s := range texts {
		m := roomyModel(model(t, s))
		was := flat(modelLists(m)...)
		a, b := normOf(t, m), normOf(t, m)
		want := toldNorm(b)
		stamp(t, normLists(a))
		clear(a.Left[:cap(a.Left)])
		for i := range a.Whole[:cap(a.Whole)] {
			a.Whole[:cap(a.Whole)][i] = !a.Whole[:cap(a.Whole)][i]
		}
		if !slices.Equal(flat(modelLists(m)...), was) {
			t.Errorf("%q: the model is changed", s)
		}
		if toldNorm(b) != want {
			t.Errorf("%q: two norms share memory", s)
		}
		wantNorm(t, m, want)
	}
}

func TestMemoryAsked(t *testing.T) { // R4
	n := normOf(t, model(t, example))
	for i := range n.Left {
		n.Left[i] = roomy(n.Left[i])
	}
	n.Right, n.Goal, n.Whole = roomy(n.Right), roomy(n.Goal), append(slices.Clone(n.Whole), true, false, true)[:2]
	was, wholeWas := flat(normLists(n)...), slices.Clone(n.Whole[:cap(n.Whole)])
	for _, s := range []string{"1 3", "1 2", "1/2 1/2", "1", "1 2 3"} {
		x := roomy(list(t, s))
		xWas := flat(x)
		norms.Check(n)
		norms.Fits(n, x)
		norms.Whole(n, x)
		if !slices.Equal(flat(normLists(n)...), was) || !slices.Equal(n.Whole[:cap(n.Whole)], wholeWas) || !slices.Equal(flat(x), xWas) {
			t.Errorf("%s: what was handed in is changed", s)
		}
	}
}

// TestGreat: the greatest models are turned into norms, and these are asked, in time.
func TestGreat(t *testing.T) { // R1
	r := rand.New(rand.NewSource(91))
	most := new(big.Int).Exp(big.NewInt(10), big.NewInt(api.MaxDigits), nil)
	part := func() api.Rat {
		den := new(big.Int).Rand(r, most)
		return ratOf(new(big.Rat).SetFrac(new(big.Int).Rand(r, most), den.SetBit(den, 0, 1)))
	}
	m := fullModel()
	var x []api.Rat
	for i := range m.Vars {
		m.Vars[i].Low, m.Vars[i].High, m.Goal[i] = less([]api.Rat{part()})[0], part(), part()
		x = append(x, part())
		for _, row := range m.Rows {
			row.Coef[i] = part()
		}
	}
	for i := range m.Rows {
		m.Rows[i].Right = part()
	}
	wantNorm(t, m, toldNorm(expected(m)))
	n := normOf(t, m)
	// No sum of so many products is that far from 0.
	far := power(2*api.MaxDigits + 2)
	for i := range n.Right {
		n.Right[i] = far
	}
	wantFits(t, n, x, true)
	wantWhole(t, n, x, false)
	n.Right[len(n.Right)-1] = less([]api.Rat{far})[0]
	wantFits(t, n, x, false)
}
