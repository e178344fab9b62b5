package deeds

import (
	"math"

	"assayer/api"
	"assayer/ints"
)

// source is bytes that are read from the first one on. From where they are no proof's on it is bad, and has none left.
type source struct {
	left []byte
	bad  bool
}

// refuse makes it bad.
func (s *source) refuse() { s.left, s.bad = nil, true }

// proof reads a proof.
func (s *source) proof() (p api.Proof) {
	p.Verdict = api.Verdict(s.number(math.MaxUint8))
	p.Point = s.fractions()
	p.Value = s.fraction()
	p.Ray = s.fractions()
	p.Nodes = read(s, s.number(api.MaxNodes), s.node)
	return p
}

// node reads a node.
func (s *source) node() (n api.Node) {
	n.Var = s.point()
	n.At = s.whole()
	n.Less = s.point()
	n.More = s.point()
	n.Mult = s.fractions()
	return n
}

// point reads a Var, Less or More.
func (s *source) point() int { return int(int64(s.number(math.MaxInt32+1)) - 1) }

// fractions reads a list of them.
func (s *source) fractions() []api.Rat { return read(s, s.number(math.MaxInt32), s.fraction) }

// fraction reads one that may be, or the zero struct.
func (s *source) fraction() (a api.Rat) {
	a.Den = s.parts(s.number(math.MaxInt32))
	if len(a.Den) > 0 {
		a.Num = s.whole()
	}
	if !mayStand(a) {
		s.refuse()
	}
	return a
}

// whole reads a whole number that may be.
func (s *source) whole() (a api.Int) {
	head := s.number(math.MaxInt32)
	a.Neg = head%2 == 1
	a.N = s.parts(head / 2)
	if !ints.Check(a) {
		s.refuse()
	}
	return a
}

// parts reads so many parts of a number.
func (s *source) parts(count uint64) api.Nat { return read(s, count, s.part) }

// part reads one.
func (s *source) part() uint32 { return uint32(s.number(math.MaxUint32)) }

// read reads so many things of any type. Room is made as they come: bytes may tell of more than they have.
func read[T any](s *source, count uint64, one func() T) []T {
	var l []T
	for ; count > 0 && !s.bad; count-- {
		l = append(l, one())
	}
	return l
}

// number reads a number that is at most so much; as add writes it, and in no other way.
func (s *source) number(most uint64) uint64 {
	n := uint64(0)
	for i, c := range s.left[:min(len(s.left), longest)] {
		n |= uint64(c&bitsOfByte) << (7 * i)
		if c >= goesOn {
			continue
		}
		// A last byte of 0 would tell nothing: add never puts it behind another one.
		if n > most || c == 0 && i > 0 {
			break
		}
		s.left = s.left[i+1:]
		return n
	}
	s.refuse()
	return 0
}
