package models

import (
	"strings"

	"assayer/api"
	"assayer/rats"
)

const (
	blank   = " "
	newline = "\n"
)

// written is the text of a model that may be.
func written(m api.Model) string {
	told := make([]string, 0, len(m.Vars))
	for _, v := range m.Vars {
		told = append(told, varText(v))
	}
	lines := []string{
		apart(goalWord(m.Most), sumText(m.Goal, m.Vars)) + semicolon,
		apart(vars, strings.Join(told, comma+blank)) + semicolon,
		rows,
	}
	for _, r := range m.Rows {
		sign := relations()[r.Kind-api.KiLess]
		lines = append(lines, apart(sumText(r.Coef, m.Vars), sign, rats.Text(r.Right))+semicolon)
	}
	// The empty one makes the last line end as the others do.
	return strings.Join(append(lines, end, ""), newline)
}

// apart are words with a blank between each two; those that are empty stay out.
func apart(words ...string) string {
	var l []string
	for _, w := range words {
		if w != "" {
			l = append(l, w)
		}
	}
	return strings.Join(l, blank)
}

func goalWord(isMost bool) string {
	if isMost {
		return most
	}
	return least
}

func sumText(coef []api.Rat, l []api.Var) string {
	var out strings.Builder
	for i, x := range coef {
		if sign := rats.Sign(x); sign != 0 {
			out.WriteString(lead(sign < 0, out.Len() == 0))
			out.WriteString(apart(amount(x), l[i].Name))
		}
	}
	return out.String()
}

// lead is what stands ahead of a term.
func lead(less, first bool) string {
	switch {
	case first && less:
		return hyphen
	case first:
		return ""
	case less:
		return blank + hyphen + blank
	}
	return blank + plus + blank
}

// amount is how much a fraction is, without its sign; of 1 it need not be said.
func amount(x api.Rat) string {
	if rats.Sign(x) < 0 {
		x = minus(x)
	}
	if rats.Cmp(x, rats.Of(1)) == 0 {
		return ""
	}
	return rats.Text(x)
}

func varText(v api.Var) string {
	if v.Whole {
		return apart(v.Name, whole, boundsText(v))
	}
	return apart(v.Name, boundsText(v))
}

// boundsText is nothing, of the bounds that a var has of which nothing is said.
func boundsText(v api.Var) string {
	bounds := [...]string{boundText(v.HasLow, v.Low), boundText(v.HasHigh, v.High)}
	switch {
	case bounds == [...]string{"0", ""}:
		return ""
	case bounds == [...]string{"", ""}:
		return free
	}
	return opening + apart(bounds[0]+comma, bounds[1]) + closing
}

func boundText(asked bool, x api.Rat) string {
	if !asked {
		return ""
	}
	return rats.Text(x)
}
