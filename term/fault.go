package term

import (
	"tribunal/api"
	"tribunal/nat"
	"tribunal/sort"
)

// fault is the first of the errors that hang on no sort of an argument.
func (t *Table) fault(n api.Node) api.Errno {
	least, most, e := t.arity(n)
	switch {
	case e != api.OK:
		return e
	case len(n.Args) < least || len(n.Args) > most:
		return api.ErrArgs
	case !t.hasAll(n.Args):
		return api.ErrArg
	case !t.rightParams(n):
		return api.ErrParam
	case n.Op == api.ONum && nat.Len(n.Int.Mag) > 64*api.MaxLimbs:
		return api.ErrBig
	case n.Op == api.OBits && !fits(n.Bits):
		return api.ErrWidth
	}
	return api.OK
}

// isOp tells whether an Op is one of the chapter's table: its numbers leave room between three groups.
func isOp(op api.Op) bool {
	return op >= api.OTrue && op <= api.OIs || op >= api.ONum && op <= api.OConst || op >= api.OBits && op <= api.OBvSge
}

// arity is how few and how many arguments a node must have.
func (t *Table) arity(n api.Node) (int, int, api.Errno) {
	if !isOp(n.Op) {
		return 0, 0, api.ErrOp
	}
	switch n.Op {
	case api.OFun, api.OCon, api.OSel, api.OIs:
		s, ok := t.symbolOf(n)
		if !ok {
			return 0, 0, api.ErrSymbol
		}
		return len(s.args), len(s.args), api.OK
	case api.OTrue, api.OFalse, api.ONum, api.OBits:
		return 0, 0, api.OK
	case api.ONot, api.OMinus, api.OAbs, api.OConst, api.OBvNot, api.OBvNeg,
		api.OExtract, api.ORepeat, api.OZeroExt, api.OSignExt, api.ORotL, api.ORotR:
		return 1, 1, api.OK
	case api.OIte, api.OStore:
		return 3, 3, api.OK
	case api.OAnd, api.OOr, api.ODistinct, api.OAdd:
		return 2, api.MaxArgs, api.OK
	}
	return 2, 2, api.OK
}

func (t *Table) hasAll(args []int) bool {
	for _, i := range args {
		if !t.has(i) {
			return false
		}
	}
	return true
}

// rightParams tells whether Params, or an OConst's Sort, are as they must be, as far as that hangs on no argument.
func (t *Table) rightParams(n api.Node) bool {
	switch n.Op {
	case api.OConst:
		return n.Sort.Kind == api.KArray && sort.Check(n.Sort, t.sig) == api.OK
	case api.OExtract:
		return within(n.Params, 2) && n.Params[1] <= n.Params[0]
	case api.ORepeat:
		return within(n.Params, 1) && n.Params[0] > 0
	case api.OZeroExt, api.OSignExt, api.ORotL, api.ORotR:
		return within(n.Params, 1)
	}
	return true
}

// within tells whether these are so many params, each of them from 0 to MaxWidth.
func within(params []int, many int) bool {
	for _, p := range params {
		if p < 0 || p > api.MaxWidth {
			return false
		}
	}
	return len(params) == many
}

func fits(b api.Bits) bool {
	return b.Width >= 1 && b.Width <= api.MaxWidth && nat.Len(b.Val) <= b.Width
}
