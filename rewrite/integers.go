package rewrite

import (
	"tribunal/api"
	"tribunal/whole"
)

// integers is rule 9.
func (s *simplifier) integers(n node) int {
	switch n.Op {
	case api.OLe:
		if n.Args[0] == n.Args[1] {
			return s.truth(true)
		}
	case api.OLt, api.OGe, api.OGt:
		return s.order(n)
	case api.ODiv, api.OMod:
		return s.division(n)
	case api.OAbs:
		if arg := s.at(n.Args[0]); arg.Op == api.OAbs {
			return arg.number
		}
	}
	return n.number
}

// division is of a number by 1 or -1.
func (s *simplifier) division(n node) int {
	switch by := s.at(n.Args[1]).Int; {
	case !isOne(whole.Abs(by)):
		return n.number
	case n.Op == api.OMod:
		return s.whole(api.Int{}, api.OK)
	case by.Neg:
		return s.of(api.OMinus, n.Args[0])
	}
	return n.Args[0]
}

func isOne(n api.Int) bool { return whole.Cmp(n, whole.Of(1)) == 0 }

// order says an order of Ints or of bits by its OLe, OBvUle or OBvSle: a < b is b > a, and that the ONot of b <= a.
func (b *builder) order(n node) int {
	le := api.OBvSle
	switch {
	case n.Op <= api.OGt:
		le = api.OLe
	case n.Op <= api.OBvUge:
		le = api.OBvUle
	}
	left, right := n.Args[0], n.Args[1]
	switch n.Op {
	case api.OLt, api.OBvUlt, api.OBvSlt:
		left, right = right, left
		fallthrough
	case api.OGt, api.OBvUgt, api.OBvSgt:
		return b.not(b.of(le, left, right))
	case api.OGe, api.OBvUge, api.OBvSge:
		return b.of(le, right, left)
	}
	return n.number
}
