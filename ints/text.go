package ints

import (
	"strings"

	"assayer/api"
	"assayer/nats"
)

const hyphen = "-"

// Text: its digits; Parse: back. (P2.5)
func Text(a api.Int) string {
	x := orZero(a)
	if x.Neg {
		return hyphen + nats.Text(x.N)
	}
	return nats.Text(x.N)
}

// Parse: likewise.
func Parse(s string) (api.Int, api.Errno) {
	digits, neg := strings.CutPrefix(s, hyphen)
	n, e := nats.Parse(digits)
	switch {
	case e != api.OK:
		return api.Int{}, e
	case neg && len(n) == 0:
		return api.Int{}, api.ErrForm
	}
	return signed(neg, n), api.OK
}
