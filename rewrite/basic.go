package rewrite

import (
	"slices"

	"tribunal/api"
	"tribunal/whole"
)

// basic is a term in few operators; its arguments are in few already.
func (b *builder) basic(n node) int {
	switch n.Op {
	case api.OXor:
		return b.not(b.of(api.OEq, n.Args...))
	case api.OImplies:
		n.Args = []int{b.not(n.Args[0]), n.Args[1]}
		fallthrough
	case api.OOr:
		return b.not(b.of(api.OAnd, b.nots(n.Args)...))
	case api.ODistinct:
		return b.joined(b.unlike(n.Args))
	case api.OLt, api.OGe, api.OGt, api.OBvUlt, api.OBvUgt, api.OBvUge, api.OBvSlt, api.OBvSgt, api.OBvSge:
		return b.order(n)
	case api.OMinus:
		return b.minus(b.at(n.Args[0]))
	case api.OSub:
		return b.of(api.OAdd, n.Args[0], b.negative(n.Args[1]))
	case api.OBvNand, api.OBvNor, api.OBvXnor:
		return b.complement(n)
	case api.OBvSub:
		return b.of(api.OBvAdd, n.Args[0], b.of(api.OBvNeg, n.Args[1]))
	}
	return n.number
}

// joined is the OAnd of some terms, at least one; of more than an OAnd takes it is one of OAnds. No pairs of up to MaxArgs terms leave one over for an OAnd.
func (b *builder) joined(list []int) int {
	for len(list) > 1 {
		var fewer []int
		for some := range slices.Chunk(list, api.MaxArgs) {
			fewer = append(fewer, b.of(api.OAnd, some...))
		}
		list = fewer
	}
	return list[0]
}

// minus is an OMinus: of an ONum an ONum, so that a numeral stays one.
func (b *builder) minus(arg node) int {
	if arg.Op == api.ONum {
		return b.whole(whole.Neg(arg.Int), api.OK)
	}
	return b.negative(arg.number)
}

// negative is -1 times a term.
func (b *builder) negative(i int) int {
	return b.of(api.OMul, b.whole(whole.Of(-1), api.OK), i)
}
