package models_test

import (
	"maps"
	"math/big"
	"strings"

	"assayer/api"
	"assayer/rats"
	"assayer/tokens"
)

// grammar tells to which state a token leads from which. As nothing nests in the language, states are all that it needs.
type grammar map[string]map[string]string

// add adds what leads on from a state.
func (g grammar) add(from string, on ...map[string]string) {
	g[from] = map[string]string{}
	for _, m := range on {
		maps.Copy(g[from], m)
	}
}

// sum adds a sum, and what stands behind it.
func (g grammar) sum(from string, behind map[string]string) {
	number, named := map[string]string{"number": from + " number"}, map[string]string{"name": from + " named"}
	g.add(from, number, named, map[string]string{"-": from + " term"}, behind)
	g.add(from+" term", number, named)
	g.add(from+" number", map[string]string{"/": from + " stroke"}, named)
	g.add(from+" stroke", map[string]string{"number": from + " second"})
	g.add(from+" second", named)
	g.add(from+" named", map[string]string{"+": from + " term", "-": from + " term"}, behind)
}

// bound adds a bound, and the sign behind it, which leads on.
func (g grammar) bound(from, sign, to string) {
	number, behind := map[string]string{"number": from + " number"}, map[string]string{sign: to}
	g.add(from, number, map[string]string{"-": from + " less"})
	g.add(from+" less", number)
	g.add(from+" number", map[string]string{"/": from + " stroke"}, behind)
	g.add(from+" stroke", map[string]string{"number": from + " second"})
	g.add(from+" second", behind)
}

func newGrammar() grammar {
	g := grammar{}
	g.add("start", map[string]string{"most": "goal", "least": "goal"})
	g.sum("goal", map[string]string{";": "vars"})
	g.add("vars", map[string]string{"vars": "var"})
	g.add("var", map[string]string{"name": "sought"})
	next := map[string]string{",": "var", ";": "rows"}
	bounds := map[string]string{"free": "bounded", "[": "low"}
	g.add("sought", map[string]string{"whole": "whole"}, bounds, next)
	g.add("whole", bounds, next)
	g.bound("low", ",", "high")
	g["low"][","] = "high"
	g.bound("high", "]", "bounded")
	g["high"]["]"] = "bounded"
	g.add("bounded", next)
	g.add("rows", map[string]string{"rows": "row", "end": "over"})
	g.sum("row", map[string]string{"<=": "right", "=": "right", ">=": "right"})
	g["row"]["end"] = "over"
	g.bound("right", ";", "row")
	g.add("over", map[string]string{"": "all"})
	return g
}

// class is what a token is to the grammar.
func class(k api.Token) string {
	switch {
	case tokens.Name(k.Text):
		return "name"
	case k.Kind == 2:
		return "number"
	}
	return k.Text
}

// use is a name in a sum, or of a var.
type use struct {
	name  string
	at    int
	times *big.Rat
}

// notes are what was read so far.
type notes struct {
	model  api.Model
	goal   []use
	vars   []use
	rows   [][]use
	sum    []use
	number string
	begins int
	amount *big.Rat
	less   bool
}

// value is what was read ahead of a name, or as a bound.
func (n *notes) value() *big.Rat {
	x := big.NewRat(1, 1)
	if n.amount != nil {
		x = n.amount
	}
	if n.less {
		x = new(big.Rat).Neg(x)
	}
	n.amount, n.less = nil, false
	return x
}

// complete takes the number that ends ahead of a token, if one does.
func (n *notes) complete(state string, k api.Token) api.Errno {
	if !strings.HasSuffix(state, " second") && (!strings.HasSuffix(state, " number") || k.Text == "/") {
		return api.OK
	}
	if _, e := rats.Parse(n.number); e != api.OK {
		return e
	}
	n.amount, _ = new(big.Rat).SetString(n.number)
	return api.OK
}

// take notes a token that leads on.
func (n *notes) take(state, to string, k api.Token) {
	vars := n.model.Vars
	switch {
	case k.Kind == 2 && strings.HasSuffix(state, " stroke"):
		n.number += "/" + k.Text
	case k.Kind == 2:
		n.number, n.begins = k.Text, k.At
	case k.Text == "-":
		n.less = true
	case strings.HasSuffix(to, " named"):
		n.sum = append(n.sum, use{k.Text, k.At, n.value()})
	case state == "start":
		n.model.Most = k.Text == "most"
	case to == "vars":
		n.goal, n.sum = n.sum, nil
	case to == "sought":
		n.vars = append(n.vars, use{k.Text, k.At, nil})
		n.model.Vars = append(vars, api.Var{Name: k.Text, HasLow: true, Low: part(0, 1), High: part(0, 1)})
	case to == "whole":
		vars[len(vars)-1].Whole = true
	case k.Text == "free", to == "low":
		vars[len(vars)-1].HasLow = false
	case to == "high" && n.amount != nil:
		vars[len(vars)-1].HasLow, vars[len(vars)-1].Low = true, ratOf(n.value())
	case to == "bounded" && n.amount != nil:
		vars[len(vars)-1].HasHigh, vars[len(vars)-1].High = true, ratOf(n.value())
	case to == "right":
		n.rows, n.sum = append(n.rows, n.sum), nil
		kind := map[string]api.Kind{"<=": api.KiLess, "=": api.KiSame, ">=": api.KiMore}[k.Text]
		n.model.Rows = append(n.model.Rows, api.Row{Kind: kind})
	case to == "row" && strings.HasPrefix(state, "right"):
		n.model.Rows[len(n.rows)-1].Right = ratOf(n.value())
	}
}

// named fills in the sums, or tells the first name that is a second var's, or no var's.
func (n *notes) named() (int, bool) {
	places := map[string]int{}
	for i, v := range n.vars {
		if _, found := places[v.name]; !found {
			places[v.name] = i
		}
	}
	known := func(l []use) (int, bool) {
		for _, u := range l {
			if _, found := places[u.name]; !found {
				return u.at, false
			}
		}
		return 0, true
	}
	if at, ok := known(n.goal); !ok {
		return at, false
	}
	for i, v := range n.vars {
		if places[v.name] != i {
			return v.at, false
		}
	}
	for _, l := range n.rows {
		if at, ok := known(l); !ok {
			return at, false
		}
	}
	if len(n.vars) > api.MaxVars || len(n.rows) > api.MaxRows {
		return 0, true
	}
	n.model.Goal = coefOf(n.goal, places)
	for i, l := range n.rows {
		n.model.Rows[i].Coef = coefOf(l, places)
	}
	return 0, true
}

func coefOf(l []use, places map[string]int) []api.Rat {
	all := make([]*big.Rat, len(places))
	for i := range all {
		all[i] = new(big.Rat)
	}
	for _, u := range l {
		all[places[u.name]].Add(all[places[u.name]], u.times)
	}
	var out []api.Rat
	for _, x := range all {
		out = append(out, ratOf(x))
	}
	return out
}

// tooLong tells whether a model has more of something than it may have.
func tooLong(m api.Model) bool {
	if len(m.Vars) > api.MaxVars || len(m.Rows) > api.MaxRows {
		return true
	}
	all := m.Goal
	for _, r := range m.Rows {
		all = append(all[:len(all):len(all)], append(r.Coef, r.Right)...)
	}
	for _, x := range all {
		if len(natText(x.Num.N)) > api.MaxDigits || len(natText(x.Den)) > api.MaxDigits {
			return true
		}
	}
	return false
}

// expected is what Parse must answer.
func expected(g grammar, s string) (api.Model, int, api.Errno) {
	l, at, e := tokens.Read(s)
	if e != api.OK {
		return api.Model{}, at, e
	}
	n, state := &notes{}, "start"
	for _, k := range append(l, api.Token{At: len(s)}) {
		if e := n.complete(state, k); e != api.OK {
			return api.Model{}, n.begins, e
		}
		to, ok := g[state][class(k)]
		if !ok {
			return api.Model{}, k.At, api.ErrForm
		}
		n.take(state, to, k)
		state = to
	}
	if at, ok := n.named(); !ok {
		return api.Model{}, at, api.ErrName
	}
	if tooLong(n.model) {
		return api.Model{}, 0, api.ErrLimit
	}
	return n.model, 0, api.OK
}

func ratOf(q *big.Rat) api.Rat {
	return api.Rat{Num: api.Int{Neg: q.Sign() < 0, N: natOf(q.Num())}, Den: natOf(q.Denom())}
}

// natOf is how far from 0 the number is.
func natOf(n *big.Int) api.Nat {
	var a api.Nat
	for n = new(big.Int).Abs(n); n.Sign() > 0; n.Rsh(n, 32) {
		a = append(a, uint32(new(big.Int).And(n, big.NewInt(1<<32-1)).Uint64()))
	}
	return a
}

func natText(a api.Nat) string {
	n := new(big.Int)
	for i, p := range a {
		part := big.NewInt(int64(p))
		n.Or(n, part.Lsh(part, uint(32*i)))
	}
	return n.String()
}
