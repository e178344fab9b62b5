package deeds

import "assayer/api"

// written is a proof's bytes.
func written(p api.Proof) []byte {
	var b []byte
	number := func(n uint64) { b = add(b, n) }
	whole, fraction := writers(number)
	fractions := func(l []api.Rat) {
		number(uint64(len(l)))
		for _, a := range l {
			fraction(a)
		}
	}
	number(uint64(p.Verdict))
	fractions(p.Point)
	fraction(p.Value)
	fractions(p.Ray)
	number(uint64(len(p.Nodes)))
	for _, n := range p.Nodes {
		number(point(n.Var))
		whole(n.At)
		number(point(n.Less))
		number(point(n.More))
		fractions(n.Mult)
	}
	return b
}

// point is a Var, Less or More as it is written: from -1 on they are numbers from 0 on.
func point(n int) uint64 { return uint64(int64(n) + 1) }

// writers are what writes a whole number, and what writes a fraction, by what writes a number from 0 on.
func writers(number func(n uint64)) (whole func(a api.Int), fraction func(a api.Rat)) {
	parts := func(n api.Nat) {
		for _, part := range n {
			number(uint64(part))
		}
	}
	whole = func(a api.Int) {
		head := 2 * uint64(len(a.N))
		if a.Neg {
			head++
		}
		number(head)
		parts(a.N)
	}
	fraction = func(a api.Rat) {
		number(uint64(len(a.Den)))
		parts(a.Den)
		// Of all that can be written only the zero struct has no Den: nothing more need be told of it.
		if len(a.Den) > 0 {
			whole(a.Num)
		}
	}
	return whole, fraction
}

// add puts a number from 0 on behind the bytes, seven bits a byte, the lowest first.
func add(b []byte, n uint64) []byte {
	for ; n > bitsOfByte; n >>= 7 {
		b = append(b, byte(n&bitsOfByte|goesOn))
	}
	return append(b, byte(n))
}

const (
	// bitsOfByte are the bits of a byte that are a number's.
	bitsOfByte = 127
	// goesOn is the bit by which a byte tells that another one of the same number is behind it.
	goesOn = 128
	// longest is how many bytes the greatest number that is written takes: a part of 32 bits.
	longest = 5
)
