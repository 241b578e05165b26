package rewrite

import (
	"slices"

	"tribunal/api"
	"tribunal/bits"
	"tribunal/whole"
)

// vectors is rule 12.
func (s *simplifier) vectors(n node) int {
	switch n.Op {
	case api.OBvNot, api.OBvNeg:
		if arg := s.at(n.Args[0]); arg.Op == n.Op {
			return arg.Args[0]
		}
	case api.OBvAnd, api.OBvOr, api.OBvXor, api.OBvAdd, api.OBvMul:
		return s.eitherWay(n, n.Args[0], n.Args[1])
	case api.OBvSub:
		if n.Args[0] == n.Args[1] {
			return s.zeros(n)
		}
		fallthrough
	case api.OBvShl, api.OBvLshr, api.OBvAshr:
		if s.isVector(n.Args[1], 0) {
			return n.Args[0]
		}
	case api.OExtract:
		return s.extract(n, s.at(n.Args[0]))
	case api.ORepeat:
		if n.Params[0] == 1 {
			return n.Args[0]
		}
	case api.OZeroExt, api.OSignExt, api.ORotL, api.ORotR:
		if n.Params[0] == 0 {
			return n.Args[0]
		}
	}
	return n.number
}

// eitherWay is of operators whose arguments may be changed.
func (s *simplifier) eitherWay(n node, a, b int) int {
	switch {
	case a == b && (n.Op == api.OBvAnd || n.Op == api.OBvOr):
		return a
	case a == b && n.Op == api.OBvXor:
		return s.zeros(n)
	case isLiteral(s.at(a).Op):
		return s.beside(n, b, a)
	}
	return s.beside(n, a, b)
}

// beside is a term and what may be a literal of which the result is seen at sight.
func (s *simplifier) beside(n node, i, literal int) int {
	switch n.Op {
	case api.OBvMul:
		if s.isVector(literal, 1) {
			return i
		}
	case api.OBvOr:
		if s.isVector(literal, -1) {
			return literal
		}
	case api.OBvAnd:
		if s.isVector(literal, -1) {
			return i
		}
	}
	switch {
	case !s.isVector(literal, 0):
		return n.number
	case n.Op == api.OBvAnd || n.Op == api.OBvMul:
		return literal
	}
	return i
}

// isVector tells whether a term is the OBits of a number.
func (s *simplifier) isVector(i int, number int64) bool {
	n := s.at(i)
	if n.Op != api.OBits {
		return false
	}
	v, _ := bits.From(n.Bits.Width, whole.Of(number))
	return slices.Equal(v.Val, n.Bits.Val)
}

// zeros is the OBits of 0 that is as wide as a term.
func (s *simplifier) zeros(n node) int { return s.vector(bits.Of(s.width(n), 0)) }

func (s *simplifier) width(n node) int {
	of, _ := s.Sort(n.number)
	return of.Width
}

func (s *simplifier) extract(n, of node) int {
	high, low := n.Params[0], n.Params[1]
	switch {
	case low == 0 && high == s.width(of)-1:
		return of.number
	case of.Op == api.OExtract:
		low += of.Params[1]
		high += of.Params[1]
		return s.put(api.Node{Op: api.OExtract, Params: []int{high, low}, Args: of.Args})
	}
	return n.number
}

// fewerVectors is rule 13.
func (s *simplifier) fewerVectors(n node) int {
	switch n.Op {
	case api.OBvNand, api.OBvNor, api.OBvXnor:
		return s.complement(n)
	case api.OBvUle, api.OBvSle:
		if n.Args[0] == n.Args[1] {
			return s.truth(true)
		}
	case api.OBvUlt, api.OBvUgt, api.OBvUge, api.OBvSlt, api.OBvSgt, api.OBvSge:
		return s.order(n)
	}
	return n.number
}

// complement says an OBvNand, OBvNor or OBvXnor by OBvNot.
func (b *builder) complement(n node) int {
	of := api.OBvXor
	switch n.Op {
	case api.OBvNand:
		of = api.OBvAnd
	case api.OBvNor:
		of = api.OBvOr
	}
	return b.of(api.OBvNot, b.of(of, n.Args...))
}
