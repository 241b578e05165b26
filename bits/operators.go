package bits

import "tribunal/api"

// operator is a row of the table of operators.
type operator struct {
	args   int
	params func(params []int) bool  // whether they may be; without it they are not looked at
	mixed  bool                     // whether the arguments' widths may be unlike
	width  func(x operands) int     // how wide the answer is; without it as wide as the first argument
	number func(x operands) api.Int // the answer is the vector of it; it may share memory with an argument
}

func operators() [api.ORotR + 1]operator {
	return [...]operator{
		api.OConcat:  {args: 2, mixed: true, width: together, number: concat},
		api.OExtract: {args: 1, params: areEnds, width: between, number: extract},
		api.OBvNot:   {args: 1, number: not},
		api.OBvNeg:   {args: 1, number: neg},
		api.OBvAnd:   {args: 2, number: and},
		api.OBvOr:    {args: 2, number: or},
		api.OBvXor:   {args: 2, number: xor},
		api.OBvNand:  {args: 2, number: nand},
		api.OBvNor:   {args: 2, number: nor},
		api.OBvXnor:  {args: 2, number: xnor},
		api.OBvComp:  {args: 2, width: one, number: comp},
		api.OBvAdd:   {args: 2, number: add},
		api.OBvSub:   {args: 2, number: sub},
		api.OBvMul:   {args: 2, number: mul},
		api.OBvUdiv:  {args: 2, number: udiv},
		api.OBvUrem:  {args: 2, number: urem},
		api.OBvSdiv:  {args: 2, number: sdiv},
		api.OBvSrem:  {args: 2, number: srem},
		api.OBvSmod:  {args: 2, number: smod},
		api.OBvShl:   {args: 2, number: shl},
		api.OBvLshr:  {args: 2, number: lshr},
		api.OBvAshr:  {args: 2, number: ashr},
		api.ORepeat:  {args: 1, params: isFactor, width: timesOver, number: repeat},
		api.OZeroExt: {args: 1, params: isCount, width: extended, number: operands.u},
		api.OSignExt: {args: 1, params: isCount, width: extended, number: operands.s},
		api.ORotL:    {args: 1, params: isCount, number: rotL},
		api.ORotR:    {args: 1, params: isCount, number: rotR},
	}
}

func operatorOf(op api.Op) (operator, bool) {
	table := operators()
	if op < 0 || int(op) >= len(table) {
		return operator{}, false
	}
	return table[op], table[op].number != nil
}

// fault is the first of the errors behind that of the Op.
func (o operator) fault(x operands) api.Errno {
	switch {
	case len(x.args) != o.args:
		return api.ErrArgs
	case o.params != nil && !o.params(x.params):
		return api.ErrParam
	case !areRight(x.args):
		return api.ErrBits
	case !o.mixed && x.first().Width != x.last().Width:
		return api.ErrSorts
	case !isWidth(o.widthOf(x)):
		return api.ErrWidth
	}
	return api.OK
}

func (o operator) widthOf(x operands) int {
	if o.width == nil {
		return x.first().Width
	}
	return o.width(x)
}

func areRight(args []api.Bits) bool {
	for _, b := range args {
		if !Right(b) {
			return false
		}
	}
	return true
}

// isCount tells whether it is one param, of those that may be.
func isCount(params []int) bool { return len(params) == 1 && inRange(params[0]) }

func isFactor(params []int) bool { return isCount(params) && params[0] != 0 }

// areEnds tells whether they are the highest and the lowest bit of a part.
func areEnds(params []int) bool {
	return len(params) == 2 && inRange(params[0]) && inRange(params[1]) && params[0] >= params[1]
}

func inRange(param int) bool { return param >= 0 && param <= api.MaxWidth }
