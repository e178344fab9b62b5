package models

import (
	"slices"

	"assayer/api"
	"assayer/rats"
)

// draft is a model as its text has it. Names are looked for when all is read: the goal stands ahead of the vars.
type draft struct {
	most bool
	goal []term
	vars []sought
	rows []row
}

// sought is a var, and where its name stands.
type sought struct {
	api.Var
	at int
}

// row is a row of a draft.
type row struct {
	sum   []term
	kind  api.Kind
	right api.Rat
}

// term is a name in a sum, and how many times it stands there.
type term struct {
	name  api.Token
	times api.Rat
}

// model is the model that the draft tells. What is the matter with it panics with a fault.
func (d *draft) model() api.Model {
	places := d.places()
	d.checkNames(places)
	// A text can have so many vars and rows that there is no room for all their fractions.
	if tooMany(len(d.vars), len(d.rows)) {
		panic(fault{0, api.ErrLimit})
	}
	m := api.Model{Most: d.most, Goal: coef(d.goal, places)}
	for _, v := range d.vars {
		m.Vars = append(m.Vars, v.Var)
	}
	for _, r := range d.rows {
		m.Rows = append(m.Rows, api.Row{Coef: coef(r.sum, places), Kind: r.kind, Right: r.right})
	}
	if !Check(m) {
		panic(fault{0, api.ErrLimit})
	}
	return m
}

// places are those of the vars, by their names: of several of one name that of the first one.
func (d *draft) places() map[string]int {
	out := map[string]int{}
	for i, v := range slices.Backward(d.vars) {
		out[v.Name] = i
	}
	return out
}

// checkNames goes through all names in the text's order, and panics at the first one that is a second var's, or no var's.
func (d *draft) checkNames(places map[string]int) {
	checkSum(d.goal, places)
	for i, v := range d.vars {
		if places[v.Name] != i {
			panic(fault{v.at, api.ErrName})
		}
	}
	for _, r := range d.rows {
		checkSum(r.sum, places)
	}
}

func checkSum(l []term, places map[string]int) {
	for _, t := range l {
		if _, known := places[t.name.Text]; !known {
			panic(fault{t.name.At, api.ErrName})
		}
	}
}

// coef is how many times each var stands in a sum.
func coef(sum []term, places map[string]int) []api.Rat {
	parts := make([][]api.Rat, len(places))
	for _, t := range sum {
		at := places[t.name.Text]
		parts[at] = append(parts[at], t.times)
	}
	out := make([]api.Rat, 0, len(parts))
	for _, l := range parts {
		out = append(out, together(l))
	}
	return out
}

// together is the sum of fractions. It may keep their memory.
func together(l []api.Rat) api.Rat {
	switch len(l) {
	case 0:
		return rats.Of(0)
	case 1:
		return l[0]
	}
	// By halves most of the sums are of short fractions; one by one, all would be as long as the whole.
	half := len(l) / 2
	return rats.Add(together(l[:half]), together(l[half:]))
}
