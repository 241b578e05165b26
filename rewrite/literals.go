package rewrite

import (
	"slices"

	"tribunal/api"
	"tribunal/bits"
	"tribunal/whole"
)

func isLiteral(op api.Op) bool {
	return op == api.OTrue || op == api.OFalse || op == api.ONum || op == api.OBits
}

// literals is rule 1: an operator whose arguments are all literals is worked out.
func (s *simplifier) literals(n node) int {
	var args []api.Node
	for _, i := range n.Args {
		arg := s.at(i)
		if !isLiteral(arg.Op) {
			return n.number
		}
		args = append(args, arg.Node)
	}
	switch op := n.Op; {
	case op == api.ONot || op == api.OXor || op == api.OImplies:
		return s.truth(isTrue(op, args))
	case op == api.OEq || op == api.ODistinct:
		return s.truth(twice(n.Args) == (op == api.OEq))
	case op >= api.OMinus && op <= api.OAbs:
		return s.whole(worked(op, args))
	case op >= api.OLe && op <= api.OGt:
		return s.truth(inOrder(op, whole.Cmp(args[0].Int, args[1].Int)))
	case op >= api.OConcat && op <= api.ORotR:
		return s.vector(bits.Apply(op, n.Params, vectorsOf(args)...))
	case op >= api.OBvUlt && op <= api.OBvSge:
		is, _ := bits.Holds(op, args[0].Bits, args[1].Bits)
		return s.truth(is)
	}
	return n.number
}

// isTrue is of OTrues and OFalses; the first one of OImplies is turned, as in its OOr.
func isTrue(op api.Op, args []api.Node) bool {
	not := args[0].Op == api.OFalse
	switch op {
	case api.ONot:
		return not
	case api.OXor:
		return args[0].Op != args[1].Op
	}
	return not || args[1].Op == api.OTrue
}

// twice tells whether a list has something at two places.
func twice(list []int) bool {
	for k, i := range list {
		if slices.Contains(list[:k], i) {
			return true
		}
	}
	return false
}

// worked is an operator of Ints at numbers.
func worked(op api.Op, args []api.Node) (api.Int, api.Errno) {
	switch op {
	case api.OMinus:
		return whole.Neg(args[0].Int), api.OK
	case api.OAbs:
		return whole.Abs(args[0].Int), api.OK
	case api.OSub:
		return whole.Sub(args[0].Int, args[1].Int)
	case api.OMul:
		return whole.Mul(args[0].Int, args[1].Int)
	case api.ODiv:
		quotient, _, e := whole.DivMod(args[0].Int, args[1].Int)
		return quotient, e
	case api.OMod:
		_, rest, e := whole.DivMod(args[0].Int, args[1].Int)
		return rest, e
	}
	var list []api.Int
	for _, n := range args {
		list = append(list, n.Int)
	}
	return whole.Sum(list...)
}

// inOrder tells whether an order of Ints holds, by how the first number stands to the second.
func inOrder(op api.Op, way int) bool {
	switch op {
	case api.OLt:
		way = -way
		fallthrough
	case api.OGt:
		return way > 0
	case api.OGe:
		way = -way
	}
	return way <= 0
}

func vectorsOf(args []api.Node) []api.Bits {
	var list []api.Bits
	for _, n := range args {
		list = append(list, n.Bits)
	}
	return list
}
