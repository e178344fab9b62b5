package rats

import (
	"strings"

	"assayer/api"
	"assayer/ints"
	"assayer/nats"
)

const (
	hyphen = "-"
	stroke = "/"
	point  = "."
	nought = "0"
	one    = "1"
)

// Text: as it is written; Parse: back. (P3.6)
func Text(a api.Rat) string {
	x := partsOf(a)
	if isOne(x[below].N) {
		return ints.Text(x[above])
	}
	return ints.Text(x[above]) + stroke + nats.Text(x[below].N)
}

// Parse: likewise.
func Parse(s string) (api.Rat, api.Errno) {
	rest, neg := strings.CutPrefix(s, hyphen)
	num, den := split(rest)
	n, numFault := nats.Parse(num)
	d, denFault := nats.Parse(den)
	switch {
	case numFault == api.ErrForm || denFault == api.ErrForm:
		return api.Rat{}, api.ErrForm
	case den == nought || neg && num == nought:
		return api.Rat{}, api.ErrForm
	case numFault != api.OK || denFault != api.OK:
		return api.Rat{}, api.ErrLimit
	}
	return Make(api.Int{Neg: neg, N: n}, api.Int{N: d})
}

// split tells the digits of two numbers, of which the fraction is made that a text without a hyphen tells.
// If it tells none, one of both is no number's text, or the second one is 0.
func split(s string) (num, den string) {
	if up, down, found := strings.Cut(s, stroke); found {
		return up, down
	}
	if whole, tail, found := strings.Cut(s, point); found {
		return splitAtPoint(whole, tail)
	}
	return s, one
}

// splitAtPoint is split of a text with a point. The longer one of both numbers has as many digits as stand around the point, so that one limit holds for all texts.
func splitAtPoint(whole, tail string) (num, den string) {
	if _, fault := nats.Parse(whole); fault == api.ErrForm || tail == "" {
		return "", one
	}
	num = strings.TrimLeft(whole+tail, nought)
	if num == "" {
		num = nought
	}
	return num, one + strings.Repeat(nought, len(tail))
}
