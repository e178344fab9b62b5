package deeds_test

import (
	"math/big"
	"math/rand"
	"strings"
	"testing"

	"assayer/api"
	"assayer/deeds"
	"assayer/models"
	"assayer/rats"
)

// model is the one of a text.
func model(t *testing.T, s string) api.Model {
	t.Helper()
	m, at, e := models.Parse(s)
	if e != api.OK {
		t.Fatalf("%q is no model's text: %d %d", s, at, e)
	}
	return m
}

func wantLine(t *testing.T, m api.Model, p api.Proof, want string) {
	t.Helper()
	if s, e := deeds.Line(m, p); e != api.OK || s != want {
		t.Errorf("Line(.., %.300s): %.99q %d, but it is %.99q", told(p), s, e, want)
	}
}

func wantNoLine(t *testing.T, what string, m api.Model, p api.Proof) {
	t.Helper()
	if s, e := deeds.Line(m, p); e != api.ErrArg || s != "" {
		t.Errorf("%s: Line(.., %.300s): %.99q %d", what, told(p), s, e)
	}
}

// both are a model of which the most, and one of which the least is sought.
func both(t *testing.T) (most, least api.Model) {
	t.Helper()
	return model(t, "most x; vars x; end"), model(t, "least 2 x + y; vars x, y whole; rows x + y >= 1; end")
}

func TestLine(t *testing.T) { // P15.2
	most, least := both(t)
	for _, l := range [][2]string{
		{"-3/2", "3/2"}, {"0", "0"}, {"1", "-1"}, {"-1", "1"}, {"7", "-7"}, {"5/2", "-5/2"}, {"4294967296", "-4294967296"}, {"-1/18446744073709551616", "1/18446744073709551616"},
	} {
		p := api.Proof{Verdict: api.VeBest, Value: rat(t, l[0])}
		wantLine(t, most, p, "best "+l[0])
		wantLine(t, least, p, "best "+l[1])
	}
	for _, m := range []api.Model{most, least} {
		wantLine(t, m, api.Proof{}, "unknown")
		wantLine(t, m, api.Proof{Verdict: api.VeEmpty}, "empty")
		wantLine(t, m, api.Proof{Verdict: api.VeEndless}, "endless")
		for v := 4; v < 256; v++ {
			wantLine(t, m, api.Proof{Verdict: api.Verdict(v)}, "unknown")
		}
	}
}

func TestLineOfAny(t *testing.T) { // P15.2
	most, least := both(t)
	r := rand.New(rand.NewSource(156))
	for range 3000 {
		q := new(big.Rat).SetFrac(bigAny(r, false), bigAny(r, true))
		p := anyProof(r)
		p.Verdict, p.Value = api.VeBest, ratOf(q)
		wantLine(t, most, p, "best "+q.RatString())
		wantLine(t, least, p, "best "+new(big.Rat).Neg(q).RatString())
	}
	// More digits than any number that is read.
	long := strings.Repeat("123456789", 100)
	n, _ := new(big.Int).SetString(long, 10)
	p := api.Proof{Verdict: api.VeBest, Value: ratOf(new(big.Rat).SetInt(n))}
	wantLine(t, most, p, "best "+long)
	wantLine(t, least, p, "best -"+long)
}

// TestLineLooksNoFarther: of other verdicts the value is not looked at, nor is anything else of any proof.
func TestLineLooksNoFarther(t *testing.T) { // P15.2
	most, least := both(t)
	for _, m := range []api.Model{most, least} {
		for _, a := range mayNot() {
			l := []api.Rat{a}
			p := api.Proof{Verdict: api.VeBest, Value: rat(t, "0"), Point: l, Ray: l, Nodes: []api.Node{{Var: -7, At: a.Num, Mult: l}}}
			wantLine(t, m, p, "best 0")
			p.Value = a
			for v, want := range map[api.Verdict]string{api.VeNone: "unknown", api.VeEmpty: "empty", api.VeEndless: "endless", 4: "unknown", 255: "unknown"} {
				p.Verdict = v
				wantLine(t, m, p, want)
			}
		}
	}
}

func TestWrongLine(t *testing.T) { // P15.2
	most, least := both(t)
	for _, m := range []api.Model{most, least} {
		for _, a := range append(mayNot(), api.Rat{}) {
			wantNoLine(t, "a value", m, api.Proof{Verdict: api.VeBest, Value: a})
		}
	}
	for what, change := range map[string]func(m *api.Model){
		"no vars":         func(m *api.Model) { *m = api.Model{} },
		"a name":          func(m *api.Model) { m.Vars[0].Name = "rows" },
		"names alike":     func(m *api.Model) { m.Vars[0].Name = "y" },
		"a short goal":    func(m *api.Model) { m.Goal = m.Goal[:1] },
		"a goal":          func(m *api.Model) { m.Goal[1] = api.Rat{} },
		"a row's kind":    func(m *api.Model) { m.Rows[0].Kind = api.KiNone },
		"a long row":      func(m *api.Model) { m.Rows[0].Coef = list(t, "1 1 1") },
		"a right side":    func(m *api.Model) { m.Rows[0].Right = mayNot()[0] },
		"a bound unasked": func(m *api.Model) { m.Vars[1].High = rats.Of(1) },
		"too many rows":   func(m *api.Model) { m.Rows = make([]api.Row, api.MaxRows+1) },
		"too many digits": func(m *api.Model) {
			m.Goal[0] = ratOf(new(big.Rat).SetInt(new(big.Int).Exp(big.NewInt(10), big.NewInt(api.MaxDigits), nil)))
		},
		"a fraction of it": func(m *api.Model) { m.Rows[0].Coef[0] = mayNot()[6] },
	} {
		_, m := both(t)
		wantLine(t, m, api.Proof{Verdict: api.VeBest, Value: rats.Of(1)}, "best -1")
		change(&m)
		for v := range 6 {
			wantNoLine(t, what, m, api.Proof{Verdict: api.Verdict(v), Value: rats.Of(1)})
			wantNoLine(t, what, m, api.Proof{Verdict: api.Verdict(v)})
		}
	}
}
