package elab

import "tribunal/api"

// names are those in use, and what they stand for.
type names struct {
	families book[family]
	symbols  book[symbol]
}

// family is what a sort's name stands for: a sort, once it has its Args, or what was defined.
type family struct {
	api.Sort
	takes int // how many sorts
	*definition
}

// symbol is what a function's name stands for: a term, once it has its Args, or what was defined.
type symbol struct {
	api.Node
	takes int // how many arguments; of one that is predefined some, or none
	*definition
}

// definition is a body, the last of its nodes, with names for what it is applied to.
type definition struct {
	params []string
	sorts  []api.Sort // of a function: its parameters' sorts
	body   []api.Sexp
}

// book is what names of a kind stand for.
type book[T any] struct {
	means map[string]*T
	order []string // the names that can be taken back, as they came
}

func (b *book[T]) has(name string) bool { return b.means[name] != nil }

func (b *book[T]) count() int { return len(b.order) }

func (b *book[T]) put(name string, is T) {
	b.means[name] = &is
	b.order = append(b.order, name)
}

// back leaves the first n of the names that can be taken back.
func (b *book[T]) back(n int) {
	for _, name := range b.order[n:] {
		delete(b.means, name)
	}
	b.order = cut(b.order, n)
}

func predefined() names {
	families := map[string]*family{
		"Bool":   {Sort: api.Sort{Kind: api.KBool}},
		"Int":    {Sort: api.Sort{Kind: api.KInt}},
		"BitVec": {Sort: api.Sort{Kind: api.KBits}},
		"Array":  {Sort: api.Sort{Kind: api.KArray}, takes: 2},
	}
	symbols := map[string]*symbol{}
	for name, op := range operators() {
		symbols[name] = &symbol{Node: api.Node{Op: op}, takes: 1}
	}
	symbols["true"].takes, symbols["false"].takes = 0, 0
	return names{families: book[family]{means: families}, symbols: book[symbol]{means: symbols}}
}

// operators are the Ops of the words; `-` is OMinus too.
func operators() map[string]api.Op {
	return map[string]api.Op{
		"true": api.OTrue, "false": api.OFalse, "not": api.ONot, "and": api.OAnd, "or": api.OOr, "xor": api.OXor, "=>": api.OImplies,
		"=": api.OEq, "distinct": api.ODistinct, "ite": api.OIte, "is": api.OIs,
		"+": api.OAdd, "-": api.OSub, "*": api.OMul, "div": api.ODiv, "mod": api.OMod, "abs": api.OAbs,
		"<=": api.OLe, "<": api.OLt, ">=": api.OGe, ">": api.OGt, "select": api.OSelect, "store": api.OStore, "const": api.OConst,
		"concat": api.OConcat, "extract": api.OExtract, "repeat": api.ORepeat, "zero_extend": api.OZeroExt, "sign_extend": api.OSignExt,
		"rotate_left": api.ORotL, "rotate_right": api.ORotR,
		"bvnot": api.OBvNot, "bvneg": api.OBvNeg, "bvand": api.OBvAnd, "bvor": api.OBvOr, "bvxor": api.OBvXor,
		"bvnand": api.OBvNand, "bvnor": api.OBvNor, "bvxnor": api.OBvXnor, "bvcomp": api.OBvComp,
		"bvadd": api.OBvAdd, "bvsub": api.OBvSub, "bvmul": api.OBvMul, "bvudiv": api.OBvUdiv, "bvurem": api.OBvUrem,
		"bvsdiv": api.OBvSdiv, "bvsrem": api.OBvSrem, "bvsmod": api.OBvSmod, "bvshl": api.OBvShl, "bvlshr": api.OBvLshr, "bvashr": api.OBvAshr,
		"bvult": api.OBvUlt, "bvule": api.OBvUle, "bvugt": api.OBvUgt, "bvuge": api.OBvUge,
		"bvslt": api.OBvSlt, "bvsle": api.OBvSle, "bvsgt": api.OBvSgt, "bvsge": api.OBvSge,
	}
}
