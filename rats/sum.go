package rats

import (
	"assayer/api"
	"assayer/ints"
)

// Add, Sub, Mul, Div. (P3.4)
func Add(a, b api.Rat) api.Rat { return ofTwo(a, b, joined(ints.Add)) }

// Sub: likewise.
func Sub(a, b api.Rat) api.Rat { return ofTwo(a, b, joined(ints.Sub)) }

// Mul: likewise.
func Mul(a, b api.Rat) api.Rat {
	return ofTwo(a, b, func(x, y parts) api.Rat {
		// Only what stands above in one and below in the other can have something in common: less work than to look for it in the product.
		down, up := common(x[above], y[below]), common(y[above], x[below])
		num := ints.Mul(over(x[above], down), over(y[above], up))
		den := ints.Mul(over(x[below], up), over(y[below], down))
		return fraction(parts{num, den})
	})
}

// Div: likewise.
func Div(a, b api.Rat) (api.Rat, api.Errno) {
	switch {
	case !Check(a) || !Check(b):
		return api.Rat{}, api.ErrArg
	case len(b.Num.N) == 0:
		return api.Rat{}, api.ErrZero
	}
	return Mul(a, api.Rat{Num: api.Int{Neg: b.Num.Neg, N: b.Den}, Den: b.Num.N}), api.OK
}

// joined tells how two fractions are joined, of how two whole numbers are.
func joined(join func(a, b api.Int) api.Int) func(x, y parts) api.Rat {
	return func(x, y parts) api.Rat {
		// What both have in common below stays out of the products: what can then be taken out of the whole is in it.
		shared := common(x[below], y[below])
		xRest, yRest := over(x[below], shared), over(y[below], shared)
		sum := join(ints.Mul(x[above], yRest), ints.Mul(y[above], xRest))
		needless := common(sum, shared)
		return fraction(parts{over(sum, needless), ints.Mul(xRest, over(y[below], needless))})
	}
}
