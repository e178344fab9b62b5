package models

import (
	"slices"

	"assayer/api"
	"assayer/rats"
	"assayer/tokens"
)

// The signs of a model's text.
const (
	plus      = "+"
	hyphen    = "-"
	stroke    = "/"
	comma     = ","
	semicolon = ";"
	opening   = "["
	closing   = "]"
)

// The language's words.
const (
	most  = "most"
	least = "least"
	vars  = "vars"
	whole = "whole"
	free  = "free"
	rows  = "rows"
	end   = "end"
)

// The kinds of tokens.
const (
	endKind    uint8 = 0 // behind the last one
	wordKind   uint8 = 1
	numberKind uint8 = 2
)

// relations are the signs of a row's kinds, from KiLess on.
func relations() []string { return []string{"<=", "=", ">="} }

// fault is what is the matter with a text, and where: what may not stand there panics with it.
type fault struct {
	at int
	e  api.Errno
}

// modelOf is the model that tokens tell, of which the last one is their end, or what is the matter with them.
func modelOf(l []api.Token) (m api.Model, f fault) {
	defer func() {
		x := recover()
		found, ok := x.(fault)
		if !ok && x != nil {
			// It is not the text's, but this package's own: nobody should take it for an answer.
			panic(x)
		}
		f = found
	}()
	r := reader{l}
	d := r.draft()
	return d.model(), fault{}
}

// reader takes tokens, one by one.
type reader struct {
	left []api.Token
}

// refuse says that the next token may not stand there.
func (r *reader) refuse() { panic(fault{r.left[0].At, api.ErrForm}) }

// take takes the next token.
func (r *reader) take() api.Token {
	t := r.left[0]
	r.left = r.left[1:]
	return t
}

// has takes the next token, if it is this one, and tells whether it was.
func (r *reader) has(text string) bool {
	found := r.left[0].Text == text
	if found {
		r.take()
	}
	return found
}

// oneOf takes the next token, which must be one of these, and tells which.
func (r *reader) oneOf(texts ...string) int {
	which := slices.Index(texts, r.left[0].Text)
	if which < 0 {
		r.refuse()
	}
	r.take()
	return which
}

// draft takes all of a model.
func (r *reader) draft() draft {
	d := draft{most: r.oneOf(most, least) == 0, goal: r.sum()}
	r.oneOf(semicolon)
	r.oneOf(vars)
	for more := true; more; more = r.oneOf(comma, semicolon) == 0 {
		d.vars = append(d.vars, r.sought())
	}
	if r.oneOf(rows, end) == 0 {
		for !r.has(end) {
			d.rows = append(d.rows, r.row())
		}
	}
	if r.left[0].Kind != endKind {
		r.refuse()
	}
	return d
}

// sought takes a var.
func (r *reader) sought() sought {
	name := r.name()
	// A bound that is not asked for is 0 as well, not nothing: else the model may not be.
	v := api.Var{Name: name.Text, Whole: r.has(whole), Low: rats.Of(0), High: rats.Of(0)}
	switch {
	case r.has(free):
	case r.has(opening):
		v.Low, v.HasLow = r.boundAhead(comma)
		v.High, v.HasHigh = r.boundAhead(closing)
	default:
		v.HasLow = true
	}
	return sought{v, name.At}
}

// row takes a row.
func (r *reader) row() row {
	sum := r.sum()
	kind := api.KiLess + api.Kind(r.oneOf(relations()...))
	right := r.bound()
	r.oneOf(semicolon)
	return row{sum, kind, right}
}

// sum takes a sum, which may be nothing.
func (r *reader) sum() []term {
	var l []term
	if next := r.left[0]; next.Text != hyphen && next.Kind != numberKind && next.Kind != wordKind {
		return l
	}
	less := r.has(hyphen)
	for {
		l = append(l, r.term(less))
		less = r.has(hyphen)
		if !less && !r.has(plus) {
			return l
		}
	}
}

// term takes a term. Behind a hyphen it is less so much.
func (r *reader) term(less bool) term {
	times := rats.Of(1)
	if r.left[0].Kind == numberKind {
		times = r.number()
	}
	if less {
		times = minus(times)
	}
	return term{r.name(), times}
}

// name takes a name.
func (r *reader) name() api.Token {
	if !tokens.Name(r.left[0].Text) {
		r.refuse()
	}
	return r.take()
}

// boundAhead takes a bound, or none, which is 0, and the sign that must stand behind it.
func (r *reader) boundAhead(sign string) (x api.Rat, found bool) {
	if r.has(sign) {
		return rats.Of(0), false
	}
	x = r.bound()
	r.oneOf(sign)
	return x, true
}

// bound takes a bound.
func (r *reader) bound() api.Rat {
	if r.has(hyphen) {
		return minus(r.number())
	}
	return r.number()
}

// number takes a number, of one token or of three.
func (r *reader) number() api.Rat {
	first := r.digits()
	s := first.Text
	if r.has(stroke) {
		s += stroke + r.digits().Text
	}
	x, e := rats.Parse(s)
	if e != api.OK {
		panic(fault{first.At, e})
	}
	return x
}

// digits takes one token of a number.
func (r *reader) digits() api.Token {
	if r.left[0].Kind != numberKind {
		r.refuse()
	}
	return r.take()
}

func minus(x api.Rat) api.Rat { return rats.Sub(rats.Of(0), x) }
