package eval

import (
	"slices"

	"tribunal/api"
	"tribunal/bits"
	"tribunal/whole"
)

// group is operators that are told alike: those behind the last one of the group ahead, up to its own last one.
type group struct {
	last api.Op
	is   func(s step) (*node, api.Errno)
}

func (v *evaluator) operators() []group {
	return []group{
		{api.OImplies, connective},
		{api.ODistinct, sameness},
		{api.OIte, choice},
		{api.OFun, v.application},
		{api.OCon, construction},
		{api.OSel, v.application},
		{api.OIs, question},
		{api.OAbs, arithmetic},
		{api.OGt, order},
		{api.OSelect, selection},
		{api.OStore, v.storing},
		{api.OConst, everywhere},
		{api.OBits, literal},
		{api.ORotR, vectors},
		{api.OBvSge, vectorOrder},
	}
}

func truth(is bool) (*node, api.Errno) {
	return leaf(api.Value{Kind: api.VBool, Bool: is}), api.OK
}

func number(n api.Int, e api.Errno) (*node, api.Errno) {
	return leaf(api.Value{Kind: api.VInt, Int: n}), e
}

func vector(b api.Bits, e api.Errno) (*node, api.Errno) {
	return leaf(api.Value{Kind: api.VBits, Bits: b}), e
}

func connective(s step) (*node, api.Errno) {
	is := func(n *node) bool { return n.Bool }
	isNot := func(n *node) bool { return !n.Bool }
	switch s.Op {
	case api.OFalse:
		return truth(false)
	case api.ONot:
		return truth(!s.args[0].Bool)
	case api.OAnd:
		return truth(!slices.ContainsFunc(s.args, isNot))
	case api.OOr:
		return truth(slices.ContainsFunc(s.args, is))
	case api.OXor:
		return truth(s.args[0].Bool != s.args[1].Bool)
	case api.OImplies:
		return truth(!s.args[0].Bool || s.args[1].Bool)
	}
	return truth(true)
}

// sameness looks for two that are the same among neighbours of the sorted ones.
func sameness(s step) (*node, api.Errno) {
	slices.SortFunc(s.args, compare)
	twice := false
	for i, n := range s.args[1:] {
		twice = twice || compare(s.args[i], n) == 0
	}
	return truth(twice == (s.Op == api.OEq))
}

func choice(s step) (*node, api.Errno) {
	if s.args[0].Bool {
		return s.args[1], api.OK
	}
	return s.args[2], api.OK
}

func (v *evaluator) application(s step) (*node, api.Errno) { return v.apply(s.Name, s.args) }

func construction(s step) (*node, api.Errno) {
	n := leaf(api.Value{Kind: api.VTree, Name: s.Name})
	for _, arg := range s.args {
		n.args = append(n.args, n.part(arg))
	}
	return n, api.OK
}

func question(s step) (*node, api.Errno) { return truth(s.args[0].Name == s.Name) }

func arithmetic(s step) (*node, api.Errno) {
	x := make([]api.Int, len(s.args))
	for i, n := range s.args {
		x[i] = n.Int
	}
	switch s.Op {
	case api.OMinus:
		return number(whole.Neg(x[0]), api.OK)
	case api.OAbs:
		return number(whole.Abs(x[0]), api.OK)
	case api.OAdd:
		return number(whole.Sum(x...))
	case api.OSub:
		return number(whole.Sub(x[0], x[1]))
	case api.OMul:
		return number(whole.Mul(x[0], x[1]))
	case api.ODiv:
		quotient, _, e := whole.DivMod(x[0], x[1])
		return number(quotient, e)
	case api.OMod:
		_, rest, e := whole.DivMod(x[0], x[1])
		return number(rest, e)
	}
	return number(s.Int, api.OK)
}

func order(s step) (*node, api.Errno) {
	switch way := whole.Cmp(s.args[0].Int, s.args[1].Int); s.Op {
	case api.OLe:
		return truth(way <= 0)
	case api.OLt:
		return truth(way < 0)
	case api.OGe:
		return truth(way >= 0)
	default:
		return truth(way > 0)
	}
}

func selection(s step) (*node, api.Errno) { return s.args[0].at(s.args[1]), api.OK }

func (v *evaluator) storing(s step) (*node, api.Errno) {
	return v.domain(s.args[0].Sort).stored(s.args[0], s.args[1], s.args[2])
}

func everywhere(s step) (*node, api.Errno) {
	n := leaf(api.Value{Kind: api.VArray, Sort: s.Sort})
	n.other = n.part(s.args[0])
	return n, api.OK
}

func literal(s step) (*node, api.Errno) { return vector(s.Bits, api.OK) }

func vectors(s step) (*node, api.Errno) {
	list := make([]api.Bits, len(s.args))
	for i, n := range s.args {
		list[i] = n.Bits
	}
	return vector(bits.Apply(s.Op, s.Params, list...))
}

func vectorOrder(s step) (*node, api.Errno) {
	is, _ := bits.Holds(s.Op, s.args[0].Bits, s.args[1].Bits)
	return truth(is)
}
