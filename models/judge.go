package models

import (
	"strings"

	"assayer/api"
	"assayer/nats"
	"assayer/rats"
	"assayer/tokens"
)

// tooMany tells whether there are more vars, or rows, than a model may have.
func tooMany(vars, rows int) bool { return vars > api.MaxVars || rows > api.MaxRows }

// judge tells what may be in a model of so many vars.
type judge struct {
	size     int
	greatest api.Nat // with MaxDigits digits
}

func newJudge(size int) judge {
	greatest, _ := nats.Parse(strings.Repeat("9", api.MaxDigits))
	return judge{size, greatest}
}

func (j judge) vars(l []api.Var) bool {
	known := map[string]int{}
	for i, v := range l {
		if !tokens.Name(v.Name) || !j.bound(v.HasLow, v.Low) || !j.bound(v.HasHigh, v.High) {
			return false
		}
		known[v.Name] = i
	}
	return len(known) == len(l)
}

func (j judge) rows(l []api.Row) bool {
	for _, r := range l {
		if !isKind(r.Kind) || !j.coef(r.Coef) || !j.fraction(r.Right) {
			return false
		}
	}
	return true
}

func (j judge) coef(l []api.Rat) bool {
	if len(l) != j.size {
		return false
	}
	for _, x := range l {
		if !j.fraction(x) {
			return false
		}
	}
	return true
}

// bound tells whether it may be one. One that is not asked for must be a fraction as all others are, and 0.
func (j judge) bound(asked bool, x api.Rat) bool {
	return j.fraction(x) && (asked || rats.Sign(x) == 0)
}

func (j judge) fraction(x api.Rat) bool {
	// Size goes first: whether a fraction is in lowest terms is much work, if it has very many digits.
	return j.short(x.Num.N) && j.short(x.Den) && rats.Check(x)
}

func (j judge) short(n api.Nat) bool { return nats.Cmp(n, j.greatest) <= 0 }

func isKind(k api.Kind) bool { return k >= api.KiLess && k <= api.KiMore }
