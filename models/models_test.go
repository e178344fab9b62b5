package models_test

import (
	"math/big"
	"math/rand"
	"slices"
	"strings"
	"testing"
	"unsafe"

	"assayer/api"
	"assayer/models"
	"assayer/tokens"
)

// example is the chapter's.
const example = "most 3 x + 2 y - x; vars x, y whole [-1, 1/2], z free; rows x + y <= 4; -z >= -2.5; = 0; end"

// exampleText is as it is written.
const exampleText = "most 2 x + 2 y;\nvars x, y whole [-1, 1/2], z free;\nrows\nx + y <= 4;\n-z >= -5/2;\n= 0;\nend\n"

// part is a fraction of small numbers.
func part(num, den int64) api.Rat { return ratOf(big.NewRat(num, den)) }

// of are whole numbers as fractions.
func of(l ...int64) []api.Rat {
	out := make([]api.Rat, 0, len(l))
	for _, n := range l {
		out = append(out, part(n, 1))
	}
	return out
}

// freeVars are vars of which no bound is asked for.
func freeVars(names ...string) []api.Var {
	var out []api.Var
	for _, s := range names {
		out = append(out, api.Var{Name: s, Low: part(0, 1), High: part(0, 1)})
	}
	return out
}

// power is ten to the power of n.
func power(n int) *big.Int { return new(big.Int).Exp(big.NewInt(10), big.NewInt(int64(n)), nil) }

func sameRat(a, b api.Rat) bool {
	return a.Num.Neg == b.Num.Neg && slices.Equal(a.Num.N, b.Num.N) && slices.Equal(a.Den, b.Den)
}

func sameVar(a, b api.Var) bool {
	return a.Name == b.Name && a.Whole == b.Whole && a.HasLow == b.HasLow && a.HasHigh == b.HasHigh && sameRat(a.Low, b.Low) && sameRat(a.High, b.High)
}

func sameRow(a, b api.Row) bool {
	return a.Kind == b.Kind && sameRat(a.Right, b.Right) && slices.EqualFunc(a.Coef, b.Coef, sameRat)
}

// same tells whether each field is the same; empty and nil are.
func same(a, b api.Model) bool {
	return a.Most == b.Most && slices.EqualFunc(a.Vars, b.Vars, sameVar) && slices.EqualFunc(a.Goal, b.Goal, sameRat) && slices.EqualFunc(a.Rows, b.Rows, sameRow)
}

// want complains, if Parse answers something else.
func want(t *testing.T, s string, m api.Model, at int, e api.Errno) {
	t.Helper()
	got, where, fault := models.Parse(s)
	if !same(got, m) || where != at || fault != e {
		t.Errorf("Parse(%.200q): %v %d %d, but it is %v %d %d", s, got, where, fault, m, at, e)
	}
	if e == api.OK && !models.Check(got) {
		t.Errorf("Parse(%.200q): a model that may not be", s)
	}
}

// wantFault complains, if the text may be, or something else is the matter, or elsewhere.
func wantFault(t *testing.T, s string, at int, e api.Errno) {
	t.Helper()
	want(t, s, api.Model{}, at, e)
}

// wantText complains, if the text is not written as the other one.
func wantText(t *testing.T, s, text string) {
	t.Helper()
	m, at, e := models.Parse(s)
	if e != api.OK {
		t.Errorf("Parse(%.200q): %d %d", s, at, e)
		return
	}
	if got, e := models.Text(m); got != text || e != api.OK {
		t.Errorf("Text(Parse(%.200q)): %q %d, but it is %q", s, got, e, text)
	}
}

// parsed is the model of a text that is one.
func parsed(t *testing.T, s string) api.Model {
	t.Helper()
	m, at, e := models.Parse(s)
	if e != api.OK {
		t.Fatalf("Parse(%.200q): %d %d", s, at, e)
	}
	return m
}

func TestParse(t *testing.T) { // P7.1
	m := api.Model{Most: true, Goal: of(2, 2, 0), Vars: []api.Var{
		{Name: "x", HasLow: true, Low: part(0, 1), High: part(0, 1)},
		{Name: "y", Whole: true, HasLow: true, Low: part(-1, 1), HasHigh: true, High: part(1, 2)},
		{Name: "z", Low: part(0, 1), High: part(0, 1)},
	}, Rows: []api.Row{
		{Coef: of(1, 1, 0), Kind: api.KiLess, Right: part(4, 1)},
		{Coef: of(0, 0, -1), Kind: api.KiMore, Right: part(-5, 2)},
		{Coef: of(0, 0, 0), Kind: api.KiSame, Right: part(0, 1)},
	}}
	want(t, example, m, 0, api.OK)
	want(t, strings.ReplaceAll(example, " ", "\n # ; end\n\t"), m, 0, api.OK)
	want(t, "most 3x+2y-x;vars x,y whole[-1,1/2],z free;rows x+y<=4;-z>=-2.5;=0;end# so", m, 0, api.OK)
	m.Most = false
	want(t, "least"+strings.TrimPrefix(example, "most"), m, 0, api.OK)
	m.Rows = nil
	want(t, "least 3 x + 2 y - x; vars x, y whole [-1, 1/2], z free; rows end", m, 0, api.OK)
	want(t, "least 3 x + 2 y - x; vars x, y whole [-1, 1/2], z free; end", m, 0, api.OK)
	wantFault(t, "", 0, api.ErrForm)
	wantFault(t, "most; vars;", 10, api.ErrForm)
	wantFault(t, "most x; vars y; rows end", 5, api.ErrName)
	wantFault(t, "most; vars x, x; rows end", 14, api.ErrName)
	wantFault(t, "most; vars x; rows x <= 1/0; end", 24, api.ErrForm)
	wantFault(t, "most; vars x; rows end end", 23, api.ErrForm)
}

func TestParseVars(t *testing.T) { // P7.1
	nought := part(0, 1)
	for s, v := range map[string]api.Var{
		"":                {HasLow: true, Low: nought, High: nought},
		"whole":           {Whole: true, HasLow: true, Low: nought, High: nought},
		"free":            {Low: nought, High: nought},
		"whole free":      {Whole: true, Low: nought, High: nought},
		"[,]":             {Low: nought, High: nought},
		"whole [ , ]":     {Whole: true, Low: nought, High: nought},
		"[0,]":            {HasLow: true, Low: nought, High: nought},
		"[-0,-0.0]":       {HasLow: true, Low: nought, HasHigh: true, High: nought},
		"[,0]":            {Low: nought, HasHigh: true, High: nought},
		"[-3/6,]":         {HasLow: true, Low: part(-1, 2), High: nought},
		"whole [2, ]":     {Whole: true, HasLow: true, Low: part(2, 1), High: nought},
		"whole [,-2.50]":  {Whole: true, Low: nought, HasHigh: true, High: part(-5, 2)},
		"[2, 1]":          {HasLow: true, Low: part(2, 1), HasHigh: true, High: part(1, 1)},
		"[- 1 / 3,4 / 6]": {HasLow: true, Low: part(-1, 3), HasHigh: true, High: part(2, 3)},
	} {
		v.Name = "x"
		m := api.Model{Goal: of(0), Vars: []api.Var{v}}
		want(t, "least; vars x "+s+"; end", m, 0, api.OK)
		m.Goal, m.Vars = of(0, 0), append(m.Vars, api.Var{Name: "y", HasLow: true, Low: nought, High: nought})
		want(t, "least; vars x "+s+", y; end", m, 0, api.OK)
	}
	for s, at := range map[string]int{"free whole": 5, "free free": 5, "whole whole": 6, "free [1,2]": 5, "[1,2] free": 6, "[1,2] whole": 6, "[1]": 2, "[]": 1, "[1;2]": 2, "[,,]": 2, "[1,2": 4, "[-,1]": 2, "[1,-]": 4, "[--1,]": 2, "[+1,]": 1, "[x,]": 1, "[1,x]": 3, "[1/,]": 3, "[1/-2,]": 3, "[1/2/3,]": 4, "[1,free]": 3, "(1,2)": 0, "1": 0, "y": 0, "= 1": 0, "[1/0,]": 1, "[-01,]": 2, "[,1.5/2]": 2, "[,-00]": 3} {
		wantFault(t, "least; vars x "+s+"; end", 14+at, api.ErrForm)
	}
}

func TestParseSums(t *testing.T) { // P7.1
	for s, l := range map[string][]api.Rat{
		"":                              of(0, 0, 0),
		"x":                             of(1, 0, 0),
		"-x":                            of(-1, 0, 0),
		"- 2 x - 3 y + z":               of(-2, -3, 1),
		"0 x":                           of(0, 0, 0),
		"-0 x - 0.0 y":                  of(0, 0, 0),
		"x + x + x - y":                 of(3, -1, 0),
		"x - x":                         of(0, 0, 0),
		"z + y + x + z":                 of(1, 1, 2),
		"1/2x+1/3x-1/6x":                {part(2, 3), part(0, 1), part(0, 1)},
		"2.50 y - 5 / 4 z + 0.125z":     {part(0, 1), part(5, 2), part(-9, 8)},
		"4/2 x - 6/4 y + 10.00 z - 9 z": {part(2, 1), part(-3, 2), part(1, 1)},
	} {
		vars := freeVars("x", "y", "z")
		m := api.Model{Most: true, Goal: l, Vars: vars}
		want(t, "most "+s+"; vars x free, y free, z free; end", m, 0, api.OK)
		m.Goal = of(0, 0, 0)
		for sign, kind := range map[string]api.Kind{"<=": api.KiLess, "=": api.KiSame, ">=": api.KiMore} {
			row := api.Row{Coef: l, Kind: kind, Right: part(-7, 2)}
			m.Rows = []api.Row{row, {Coef: of(0, 0, 1), Kind: api.KiSame, Right: part(0, 1)}, row}
			s := s + sign + "-3.50;"
			want(t, "most; vars x free, y free, z free; rows "+s+" z = 0; "+s+" end", m, 0, api.OK)
		}
	}
	for s, at := range map[string]int{"+ x": 0, "- - x": 2, "-+x": 1, "x + - y": 4, "x +": 4, "x -": 4, "-": 2, "3": 2, "3 3 x": 2, "3 * x": 2, "x y": 2, "x 3": 2, "x / 2": 2, "1/x": 2, "1//2 x": 2, "1/2/3 x": 3, "1/-2 x": 2, "(x)": 0, "x; y": 3, "x, y": 1, "sum x": 0, "3 whole": 2, "x + rows": 4, "x <= 1": 2, "1/0 x": 0, "01 x": 0, "x - 1.5/2 y": 4, "x + 1/00 y": 4, "2 x + 1/2.5 y 3": 6} {
		wantFault(t, "most "+s+" ; vars x, y; end", 5+at, api.ErrForm)
	}
	for s, at := range map[string]int{"+ x = 0;": 0, "x;": 1, "x = ;": 4, "x = y;": 4, "x = 0": 6, "x = 0,": 5, "x == 0;": 3, "x <= = 0;": 5, "x = + 1;": 4, "x = --1;": 5, "= 1 2;": 4, "0 <= x;": 2, "x = 1/0;": 4, "x = -01;": 5, "x <= 1/2/3;": 8, ";": 0, "x : 0;": 2, "x = 0; rows": 7, "x = 0; vars": 7, "1/0 x = 01;": 0} {
		wantFault(t, "most; vars x, y; rows "+s+" end", 22+at, api.ErrForm)
	}
}

func TestParseFrame(t *testing.T) { // P7.1
	for s, at := range map[string]int{
		" ": 1, "# x": 3, "most": 4, "most  \n": 7, "vars": 0, "Most; vars x; end": 0, "most least; vars x; end": 5, "most vars x; end": 5, "most;": 5, "most; x; end": 6, "most;; vars x; end": 5,
		"most; vars": 10, "most; vars x": 12, "most; vars x end": 13, "most; vars x; ": 14, "most; vars x,; end": 13, "most; vars ,x; end": 11, "most; vars x y; end": 13, "most; vars end; end": 11, "most; vars 1; end": 11,
		"most; vars x; rows": 18, "most; vars x; rows; end": 18, "most; vars x; rows rows end": 19, "most; vars x; x = 0; end": 14, "most; vars x; vars y; end": 14, "most; vars x; end;": 17, "most; vars x; end x": 18, "most; vars x; end = 0; end": 18,
		"most; vars x; rows x = 0 end": 25, "most; vars x; rows x = 0; # end": 31, "most; vars x; rows sum = 0; end": 19,
		"most; vars " + strings.Repeat("n", api.MaxName+1) + "; end": 11, "most " + strings.Repeat("n", api.MaxName+1) + "; vars x; end": 5,
	} {
		wantFault(t, s, at, api.ErrForm)
	}
	// What is no token goes ahead of all else.
	wantFault(t, "most x; vars y, y; rows x <= 1/0; end !", 38, api.ErrForm)
	wantFault(t, "end <", 4, api.ErrForm)
	wantFault(t, strings.Repeat("<", api.MaxText+1), 0, api.ErrLimit)
	for n, e := range map[int]api.Errno{api.MaxText - len(example): api.OK, api.MaxText - len(example) + 1: api.ErrLimit} {
		if _, at, got := models.Parse(example + strings.Repeat(" ", n)); at != 0 || got != e {
			t.Errorf("%d bytes: %d %d", len(example)+n, at, got)
		}
	}
}

func TestParseNames(t *testing.T) { // P7.1
	for s, at := range map[string]int{
		"most x - y; vars x; end":                          9,
		"most 0 y; vars x; end":                            7,
		"most x - x + Y; vars x, y; end":                   13,
		"most z; vars x, x; rows y = 0; end":               5,
		"most; vars x, x; rows y = 0; end":                 14,
		"most x; vars x, y, x, y; rows z = 0; end":         19,
		"most; vars x, y, y free, x whole; end":            17,
		"most; vars x; rows x = 0; y = 0; z = 0; end":      26,
		"most; vars x; rows 2 x - 3 y + z = 0; end":        27,
		"most; vars a, b, c, a, a; end":                    20,
		"most x + x_; vars x, x1, x__; rows x_1 = 1; end":  9,
		"most; vars x; rows x = 0; -1/2 yy + zz >= 2; end": 31,
	} {
		wantFault(t, s, at, api.ErrName)
	}
	// A token that may not stand there goes first, wherever it stands, and so does a number that may not be.
	wantFault(t, "most y; vars x, x; rows x = 0; end end", 35, api.ErrForm)
	wantFault(t, "most y; vars x, x; rows x = 1/0; end", 28, api.ErrForm)
	wantFault(t, "most y; vars x, x; rows x = "+strings.Repeat("1", api.MaxDigits+1)+"; end", 28, api.ErrLimit)
}

// manyVars are a text's vars.
func manyVars(n int) string {
	var l []string
	for i := range n {
		l = append(l, "x"+big.NewInt(int64(i)).String())
	}
	return strings.Join(l, ", ")
}

func TestParseLimits(t *testing.T) { // P7.1
	if m := parsed(t, "most; vars "+manyVars(api.MaxVars)+"; rows "+strings.Repeat("=0;", api.MaxRows)+" end"); len(m.Vars) != api.MaxVars || len(m.Rows) != api.MaxRows {
		t.Errorf("%d vars, %d rows", len(m.Vars), len(m.Rows))
	}
	for _, n := range []int{api.MaxVars + 1, 2 * api.MaxVars, 5000} {
		wantFault(t, "most; vars "+manyVars(n)+"; end", 0, api.ErrLimit)
	}
	for _, n := range []int{api.MaxRows + 1, 2 * api.MaxRows, 20000} {
		wantFault(t, "most; vars x; rows "+strings.Repeat("=0;", n)+" end", 0, api.ErrLimit)
	}
	// Names go first.
	many := "most; vars " + manyVars(4000)
	wantFault(t, many+", x3; rows "+strings.Repeat("=0;", 10000)+" end", len(many)+2, api.ErrName)
	wantFault(t, many+"; rows "+strings.Repeat("=0;", 10000)+" y=0; end", len(many)+30008, api.ErrName)
}

func TestParseDigits(t *testing.T) { // P7.1
	top, over := strings.Repeat("9", api.MaxDigits), "1"+strings.Repeat("0", api.MaxDigits)
	tail := "0." + strings.Repeat("0", api.MaxDigits-2) + "1"
	nines, shy := new(big.Int).Sub(power(api.MaxDigits), big.NewInt(1)), new(big.Int).Sub(power(api.MaxDigits), big.NewInt(2))
	for s, x := range map[string]*big.Rat{top: new(big.Rat).SetInt(nines), "1/" + top: new(big.Rat).SetFrac(big.NewInt(1), nines), top + "/2": new(big.Rat).SetFrac(nines, big.NewInt(2)), top[1:] + "8/" + top: new(big.Rat).SetFrac(shy, nines), tail: new(big.Rat).SetFrac(big.NewInt(1), power(api.MaxDigits-1))} {
		x := ratOf(x)
		v := api.Var{Name: "x", HasLow: true, Low: x, HasHigh: true, High: x}
		want(t, "most "+s+"x; vars x ["+s+","+s+"]; rows "+s+"x<="+s+"; end", api.Model{Most: true, Vars: []api.Var{v}, Goal: []api.Rat{x}, Rows: []api.Row{{Coef: []api.Rat{x}, Kind: api.KiLess, Right: x}}}, 0, api.OK)
	}
	for _, s := range []string{over, "1/" + over, over + "/1", over + "/" + over, tail + "0", over + ".5", "0" + tail, over + "/2"} {
		e := api.ErrLimit
		if strings.HasPrefix(s, "00") {
			e = api.ErrForm
		}
		wantFault(t, "most "+s+" x; vars x; end", 5, e)
		wantFault(t, "most -"+s+" x; vars x; end", 6, e)
		wantFault(t, "most; vars x [- "+s+",]; end", 16, e)
		wantFault(t, "most; vars x [,"+s+"]; end", 15, e)
		wantFault(t, "most; vars x; rows = "+s+"; end", 21, e)
	}
	// The first fault of the text is told.
	wantFault(t, "most "+over+" x; vars x; rows = 1/0; end", 5, api.ErrLimit)
	wantFault(t, "most 1/0 x; vars x; rows = "+over+"; end", 5, api.ErrForm)
	wantFault(t, "most "+over+"/0 x; vars x; end", 5, api.ErrForm)
	wantFault(t, "most "+over+"/x; vars x; end", 6+len(over), api.ErrForm)
}

func TestParseGrown(t *testing.T) { // P7.1
	top, half := strings.Repeat("9", api.MaxDigits), strings.Repeat("9", api.MaxDigits/2)
	for _, s := range []string{top + " x + x", "-" + top + " x - x", "1/" + top + " x + 1/2 x", "1/" + half + "7 x + 1/" + half + "8 x", top + " x + 1/2 x"} {
		wantFault(t, "most "+s+"; vars x; end", 0, api.ErrLimit)
		wantFault(t, "most; vars x; rows x = 0; "+s+" = 0; end", 0, api.ErrLimit)
		wantFault(t, "most "+s+"; vars x; rows y = 0; end", 20+len(s), api.ErrName)
		// What a sum is on its way does not matter.
		m := api.Model{Most: true, Goal: of(2), Vars: freeVars("x")}
		back := strings.NewReplacer("+", "-", "-", "+").Replace(strings.TrimPrefix(s, "-"))
		if strings.HasPrefix(s, "-") {
			back = s[1:len(top)+1] + " x + x"
			want(t, "most "+s+" + "+back+" + 2 x; vars x free; end", m, 0, api.OK)
			continue
		}
		want(t, "most "+s+" - "+back+" + 2 x; vars x free; end", m, 0, api.OK)
	}
	x := ratOf(new(big.Rat).SetInt(new(big.Int).Sub(power(api.MaxDigits), big.NewInt(1))))
	want(t, "most "+top[1:]+"8 x + x; vars x free; end", api.Model{Most: true, Goal: []api.Rat{x}, Vars: freeVars("x")}, 0, api.OK)
}

// turns are tokens that are laid into a text.
var turns = strings.Fields("most least sum rows vars whole free end x y w 0 2 1/2 01 1/0 1.5 + - * / , : ; = <= >= ( ) [ ]")

func TestParseTurned(t *testing.T) { // P7.1
	g := newGrammar()
	check := func(l []string) {
		s := strings.Join(l, " ")
		m, at, e := expected(g, s)
		want(t, s, m, at, e)
	}
	for _, s := range []string{example, "least -1/2 x + 0 y; vars x [,], y [1,] , z whole [,2/3]; end", "most; vars x whole free; rows end"} {
		var l []string
		all, _, _ := tokens.Read(s)
		for _, k := range all {
			l = append(l, k.Text)
		}
		check(l)
		for i := range l {
			check(l[:i])
			check(slices.Concat(l[:i], l[i+1:]))
			for _, x := range turns {
				check(slices.Concat(l[:i], []string{x}, l[i+1:]))
				check(slices.Concat(l[:i], []string{x}, l[i:]))
			}
			for j := range i {
				swapped := slices.Clone(l)
				swapped[i], swapped[j] = l[j], l[i]
				check(swapped)
			}
		}
		for _, x := range turns {
			check(append(slices.Clone(l), x))
		}
	}
}

// writing writes texts of models, most of which may be; always the same.
type writing struct {
	*rand.Rand
	names []string
}

func (w writing) pick(l ...string) string { return l[w.Intn(len(l))] }

func (w writing) number() string {
	n := func(top int64) string { return big.NewInt(w.Int63n(top)).String() }
	return w.pick("0", "1", n(10), n(1<<40), n(10)+"/"+big.NewInt(1+w.Int63n(9)).String(), n(1<<62)+" / 1"+n(1<<62), n(9)+".0"+n(99), n(9)+".00", "1/1"+n(1<<60))
}

func (w writing) bound() string { return w.pick("", "-", "- ") + w.number() }

func (w writing) sum() string {
	if w.Intn(6) == 0 {
		return ""
	}
	s := w.pick("", "-")
	for i := range 1 + w.Intn(8) {
		if i > 0 {
			s += w.pick("+", "-", " + ", " - ")
		}
		name := w.names[w.Intn(len(w.names))]
		s += w.pick("", w.number()+" ", w.number()) + name
	}
	return s
}

func (w writing) text() string {
	s := w.pick("most", "least") + " " + w.sum() + "; vars "
	for i, name := range w.names {
		if i > 0 {
			s += w.pick(",", ", ")
		}
		s += name + w.pick("", " whole") + w.pick("", " free", "[,]", "["+w.bound()+",]", " [, "+w.bound()+"]", "["+w.bound()+", "+w.bound()+"]")
	}
	s += ";"
	if w.Intn(8) > 0 {
		s += w.pick("rows", "rows # x\n")
		for range w.Intn(6) {
			s += " " + w.sum() + w.pick("=", "<=", " >= ") + w.bound() + ";"
		}
	}
	return s + w.pick(" end", "end")
}

// written are texts of models.
func written() []string {
	r := rand.New(rand.NewSource(7))
	names := []string{"x", "y", "X_1", "most_", "e", "a0Z_9", "Rows", strings.Repeat("n", api.MaxName)}
	l := []string{example, "most; vars x; end"}
	for i := range 1000 {
		r.Shuffle(len(names), func(i, j int) { names[i], names[j] = names[j], names[i] })
		l = append(l, writing{r, slices.Clone(names[:1+i%len(names)])}.text())
	}
	return l
}

func TestParseWritten(t *testing.T) { // P7.1
	g, faults := newGrammar(), 0
	for _, s := range written() {
		m, at, e := expected(g, s)
		want(t, s, m, at, e)
		if e != api.OK {
			faults++
		}
	}
	if faults > 100 {
		t.Errorf("%d texts of models are none", faults)
	}
}

func TestText(t *testing.T) { // P7.2
	wantText(t, example, exampleText)
	for s, text := range map[string]string{
		"":                        "",
		"x":                       "x",
		"-x":                      "-x",
		"2x":                      "2 x",
		"-2x":                     "-2 x",
		"y - x":                   "-x + y",
		"- y + x":                 "x - y",
		"0 x + y":                 "y",
		"0 x - y":                 "-y",
		"x - x":                   "",
		"1/2 x - 3.50 y + 6/4 z":  "1/2 x - 7/2 y + 3/2 z",
		"-0.25 z - 1.00 y + x":    "x - y - 1/4 z",
		"x + y + z":               "x + y + z",
		"-x-y-z":                  "-x - y - z",
		"12 x - 12 z":             "12 x - 12 z",
		"z + 1/3 z + 2/3 z - 2 z": "",
	} {
		head, space := "most", ""
		if text != "" {
			head, space = "most "+text, " "
		}
		wantText(t, "most "+s+"; vars x, y, z; end", head+";\nvars x, y, z;\nrows\nend\n")
		for _, sign := range []string{"<=", "=", ">="} {
			wantText(t, "least; vars x, y, z; rows "+s+sign+"0;"+s+sign+"-6/4; end", "least;\nvars x, y, z;\nrows\n"+text+space+sign+" 0;\n"+text+space+sign+" -3/2;\nend\n")
		}
	}
	for s, text := range map[string]string{
		"": "", "whole": " whole", "free": " free", "whole free": " whole free", "[,]": " free", "whole[,]": " whole free", "[0,]": "", "whole [-0.0,]": " whole",
		"[1,]": " [1,]", "[,1]": " [, 1]", "[0,1]": " [0, 1]", "[,0]": " [, 0]", "[0,0]": " [0, 0]", "[-2.50,-6/4]": " [-5/2, -3/2]", "whole [1/3,]": " whole [1/3,]", "whole [,-1]": " whole [, -1]", "[2,1]": " [2, 1]",
	} {
		wantText(t, "most; vars x "+s+", y; end", "most;\nvars x"+text+", y;\nrows\nend\n")
		wantText(t, "most; vars y, x "+s+"; end", "most;\nvars y, x"+text+";\nrows\nend\n")
	}
}

func TestTextMayNot(t *testing.T) { // P7.2
	for i, m := range mayNot(t) {
		if s, e := models.Text(m); s != "" || e != api.ErrArg {
			t.Errorf("%d: %q %d", i, s, e)
		}
	}
	m := large(t, api.MaxText+1)
	m.Rows[0].Kind = api.KiNone
	if s, e := models.Text(m); s != "" || e != api.ErrArg {
		t.Errorf("%q %d", s, e)
	}
}

// large is a model whose text has so many bytes, some 65000 at least.
func large(t *testing.T, size int) api.Model {
	t.Helper()
	long := new(big.Rat).SetFrac(power(api.MaxDigits-1), new(big.Int).Add(power(api.MaxDigits-1), big.NewInt(1)))
	m := parsed(t, "most; vars "+manyVars(3)+"; end")
	for range 53 {
		m.Rows = append(m.Rows, api.Row{Coef: []api.Rat{ratOf(long), ratOf(long), part(0, 1)}, Kind: api.KiLess, Right: ratOf(long)})
	}
	s, e := models.Text(m)
	if e != api.OK {
		t.Fatalf("%d", e)
	}
	// A row of nothing but its right has these bytes, and at least one digit.
	const bare = len("= ;\n")
	for left := size - len(s); left > 0; {
		digits := min(left-bare, api.MaxDigits)
		if rest := left - bare - digits; rest > 0 && rest <= bare {
			digits -= bare
		}
		m.Rows = append(m.Rows, api.Row{Coef: of(0, 0, 0), Kind: api.KiSame, Right: ratOf(new(big.Rat).SetInt(power(digits - 1)))})
		left -= digits + bare
	}
	return m
}

func TestTextLimit(t *testing.T) { // P7.2
	for _, n := range []int{api.MaxText - 1, api.MaxText} {
		m := large(t, n)
		if s, e := models.Text(m); len(s) != n || e != api.OK {
			t.Errorf("%d bytes: %d %d", n, len(s), e)
		} else {
			want(t, s, m, 0, api.OK)
		}
	}
	for _, n := range []int{api.MaxText + 1, api.MaxText + 100} {
		if s, e := models.Text(large(t, n)); s != "" || e != api.ErrLimit {
			t.Errorf("%d bytes: %d %d", n, len(s), e)
		}
	}
}

// mayNot are models that may not be, each for one reason.
func mayNot(t *testing.T) []api.Model {
	t.Helper()
	var out []api.Model
	but := func(change func(m *api.Model)) {
		m := parsed(t, example)
		change(&m)
		out = append(out, m)
	}
	but(func(m *api.Model) { *m = api.Model{} })
	but(func(m *api.Model) { m.Vars = nil })
	but(func(m *api.Model) { *m = api.Model{Vars: []api.Var{}, Rows: m.Rows} })
	but(func(m *api.Model) { m.Vars = m.Vars[:2] })
	but(func(m *api.Model) { m.Vars = append(m.Vars, freeVars("w")...) })
	for _, s := range []string{"", "1", "_x", "x y", " x", "x ", "rows", "most", "sum", "x-", "é", "y", "z", "\xff", strings.Repeat("n", api.MaxName+1), strings.Repeat("x", 1<<20)} {
		but(func(m *api.Model) { m.Vars[0].Name = s })
	}
	but(func(m *api.Model) { m.Vars[2].Name = "x" })
	but(func(m *api.Model) { m.Goal = m.Goal[:2] })
	but(func(m *api.Model) { m.Goal = nil })
	but(func(m *api.Model) { m.Goal = of(1, 2, 3, 4) })
	but(func(m *api.Model) { m.Rows[2].Coef = m.Rows[2].Coef[:2] })
	but(func(m *api.Model) { m.Rows[0].Coef = nil })
	but(func(m *api.Model) { m.Rows[1].Coef = of(1, 2, 3, 4) })
	but(func(m *api.Model) { m.Rows = append(m.Rows, api.Row{}) })
	for _, k := range []api.Kind{api.KiNone, api.KiMore + 1, 17, 255} {
		but(func(m *api.Model) { m.Rows[0].Kind = k })
		but(func(m *api.Model) { m.Rows[2].Kind = k })
	}
	for _, x := range mayNotRats() {
		but(func(m *api.Model) { m.Goal[0] = x })
		but(func(m *api.Model) { m.Goal[2] = x })
		but(func(m *api.Model) { m.Rows[0].Coef[0] = x })
		but(func(m *api.Model) { m.Rows[2].Coef[2] = x })
		but(func(m *api.Model) { m.Rows[1].Right = x })
		but(func(m *api.Model) { m.Vars[0].Low = x })
		but(func(m *api.Model) { m.Vars[1].High = x })
	}
	// A bound that is not asked for is 0, as a fraction that may be: neither the zero struct, nor another number.
	for _, x := range append(mayNotRats(), api.Rat{Num: api.Int{N: api.Nat{}}, Den: api.Nat{}}, part(1, 1), part(-1, 2)) {
		but(func(m *api.Model) { m.Vars[2].Low, m.Vars[2].High = x, x })
		but(func(m *api.Model) { m.Vars[0].High = x })
		but(func(m *api.Model) { m.Vars[2].Low = x })
		but(func(m *api.Model) { m.Vars[2].High = x })
	}
	return out
}

// mayNotRats are fractions that may not be, or have too many digits.
func mayNotRats() []api.Rat {
	one, top := api.Nat{1}, natOf(power(api.MaxDigits))
	huge := make(api.Nat, 1<<20)
	for i := range huge {
		huge[i] = 1<<32 - 1
	}
	return []api.Rat{
		{}, {Den: api.Nat{0}}, {Den: api.Nat{2}}, {Den: api.Nat{1, 0}}, {Num: api.Int{N: one}}, {Num: api.Int{Neg: true}, Den: one}, {Num: api.Int{Neg: true}}, {Num: api.Int{N: api.Nat{0}}, Den: one}, {Num: api.Int{N: api.Nat{0}}},
		{Num: api.Int{N: api.Nat{2}}, Den: api.Nat{4}}, {Num: api.Int{N: top}, Den: one}, {Num: api.Int{Neg: true, N: top}, Den: one}, {Num: api.Int{N: one}, Den: top},
		{Num: api.Int{N: huge}, Den: one}, {Num: api.Int{N: one}, Den: huge}, {Num: api.Int{N: huge}, Den: huge[1:]}, {Den: huge},
	}
}

func TestCheck(t *testing.T) { // P7.3
	for i, m := range mayNot(t) {
		if models.Check(m) {
			t.Errorf("%d: a model that may not be", i)
		}
	}
	top := new(big.Int).Sub(power(api.MaxDigits), big.NewInt(1))
	mayBe := func(change func(m *api.Model)) {
		t.Helper()
		m := parsed(t, example)
		change(&m)
		if !models.Check(m) {
			t.Errorf("a model that may be: %v", m)
		}
	}
	mayBe(func(m *api.Model) {})
	mayBe(func(m *api.Model) { m.Most, m.Rows = false, nil })
	mayBe(func(m *api.Model) { m.Rows = []api.Row{} })
	mayBe(func(m *api.Model) { m.Vars[0].Name = strings.Repeat("n", api.MaxName) })
	mayBe(func(m *api.Model) { m.Vars[0].Name = "Y" })
	mayBe(func(m *api.Model) { m.Vars[1].Low = part(7, 1) })
	mayBe(func(m *api.Model) { m.Vars[0].High, m.Vars[2].Low, m.Vars[2].High = part(0, 1), part(0, 1), part(0, 1) })
	mayBe(func(m *api.Model) { m.Vars[2].High = api.Rat{Num: api.Int{N: api.Nat{}}, Den: api.Nat{1}} })
	mayBe(func(m *api.Model) { m.Vars[0].HasHigh, m.Vars[0].High = true, part(1, 3) })
	for _, x := range []*big.Rat{new(big.Rat).SetInt(top), new(big.Rat).SetInt(new(big.Int).Neg(top)), new(big.Rat).SetFrac(big.NewInt(-1), top), new(big.Rat).SetFrac(power(api.MaxDigits-1), top)} {
		x := ratOf(x)
		mayBe(func(m *api.Model) {
			m.Goal[0], m.Rows[2].Coef[2], m.Rows[0].Right, m.Vars[0].Low, m.Vars[1].High = x, x, x, x, x
		})
	}
	for _, kind := range []api.Kind{api.KiLess, api.KiSame, api.KiMore} {
		mayBe(func(m *api.Model) { m.Rows[0].Kind = kind })
	}
}

func TestCheckLimits(t *testing.T) { // P7.3
	for _, vars := range []int{1, api.MaxVars - 1, api.MaxVars, api.MaxVars + 1, 1 << 16} {
		for _, rows := range []int{0, 1, api.MaxRows, api.MaxRows + 1} {
			var m api.Model
			for i := range vars {
				m.Vars = append(m.Vars, freeVars("x"+big.NewInt(int64(i)).String())...)
			}
			m.Goal = slices.Repeat(of(1), vars)
			for range rows {
				m.Rows = append(m.Rows, api.Row{Coef: m.Goal, Kind: api.KiMore, Right: part(0, 1)})
			}
			if may := vars <= api.MaxVars && rows <= api.MaxRows; models.Check(m) != may {
				t.Errorf("%d vars, %d rows: %t", vars, rows, !may)
			}
		}
	}
}

func TestAgain(t *testing.T) { // P7.4, P0.6
	for _, s := range written() {
		m, _, e := models.Parse(s)
		if e != api.OK {
			continue
		}
		text, e := models.Text(m)
		if e != api.OK {
			t.Errorf("Text(Parse(%q)): %d", s, e)
		}
		want(t, text, m, 0, api.OK)
		wantText(t, text, text)
	}
	top := strings.Repeat("9", api.MaxDigits)
	for _, x := range []string{top, top[1:] + "8/" + top, "1/" + top} {
		text := "least -" + x + " x;\nvars x [-" + x + ", " + x + "];\nrows\n" + x + " x = -" + x + ";\nend\n"
		wantText(t, text, text)
	}
}

// stretch is where a list lies, with its spare room.
type stretch struct{ from, to uintptr }

func stretchOf[T any](l []T) stretch {
	var one T
	from := uintptr(unsafe.Pointer(unsafe.SliceData(l)))
	return stretch{from, from + uintptr(cap(l))*unsafe.Sizeof(one)}
}

// stretches are those of all lists of a model.
func stretches(m api.Model) []stretch {
	out := []stretch{stretchOf(m.Vars), stretchOf(m.Goal), stretchOf(m.Rows)}
	all := slices.Clone(m.Goal)
	for _, v := range m.Vars {
		all = append(all, v.Low, v.High)
	}
	for _, r := range m.Rows {
		out = append(out, stretchOf(r.Coef))
		all = append(append(all, r.Right), r.Coef...)
	}
	for _, x := range all {
		out = append(out, stretchOf(x.Num.N), stretchOf(x.Den))
	}
	return out
}

func TestMemory(t *testing.T) { // R4
	b := []byte(example)
	s := unsafe.String(unsafe.SliceData(b), len(b))
	first, _, _ := models.Parse(s)
	second, _, _ := models.Parse(s)
	if string(b) != example {
		t.Errorf("what was handed in is changed: %q", b)
	}
	clear(b)
	if text, _ := models.Text(first); text != exampleText {
		t.Errorf("the model shares memory with its text: %q", text)
	}
	l := append(stretches(first), stretches(second)...)
	l = slices.DeleteFunc(l, func(x stretch) bool { return x.from == x.to })
	slices.SortFunc(l, func(a, b stretch) int {
		if a.from < b.from {
			return -1
		}
		return 1
	})
	for i := range l[1:] {
		if l[i].to > l[i+1].from {
			t.Errorf("two lists share memory")
		}
	}
	// Text and Check leave what they are given as it is.
	m := parsed(t, example)
	if s, e := models.Text(m); s != exampleText || e != api.OK || !models.Check(m) || !same(m, second) {
		t.Errorf("%q %d %v", s, e, m)
	}
}

func TestMany(t *testing.T) { // R1: of more vars and rows than may be no fractions are made.
	s := "most; vars " + manyVars(4000) + "; rows " + strings.Repeat("=0;", 10000) + " end"
	if n := testing.AllocsPerRun(1, func() { wantFault(t, s, 0, api.ErrLimit) }); n > 1e6 {
		t.Errorf("%g lists are made", n)
	}
}

func TestMuch(t *testing.T) { // R1: fractions of very many digits come together in time.
	for _, n := range []int{1, 10, 50, 199} {
		var b strings.Builder
		for x := power(n); b.Len() < api.MaxText-2*n-40; x.Add(x, big.NewInt(2)) {
			b.WriteString("+1/1" + x.String()[1:] + "x")
		}
		wantFault(t, "most "+strings.TrimPrefix(b.String(), "+")+"; vars x; end", 0, api.ErrLimit)
	}
}
