package term

import (
	"tribunal/api"
	"tribunal/fresh"
	"tribunal/nat"
	"tribunal/sort"
)

// result is the sort of a node that fault takes, by those of its arguments.
func (t *Table) result(n api.Node) (api.Sort, api.Errno) {
	boolean, integer := api.Sort{Kind: api.KBool}, api.Sort{Kind: api.KInt}
	switch n.Op {
	case api.OTrue, api.OFalse, api.ONot, api.OAnd, api.OOr, api.OXor, api.OImplies:
		return t.allOf(boolean, n.Args, boolean)
	case api.OEq, api.ODistinct:
		return t.allOf(t.sortOf(n.Args[0]), n.Args, boolean)
	case api.OIte:
		s := t.sortOf(n.Args[1])
		return t.each([]api.Sort{boolean, s, s}, n.Args, s)
	case api.OFun, api.OCon, api.OSel, api.OIs:
		s, _ := t.symbolOf(n)
		return t.each(s.args, n.Args, s.ret)
	case api.ONum, api.OMinus, api.OAbs, api.OAdd, api.OSub, api.OMul, api.ODiv, api.OMod:
		return t.allOf(integer, n.Args, integer)
	case api.OLe, api.OLt, api.OGe, api.OGt:
		return t.allOf(integer, n.Args, boolean)
	case api.OConst:
		return t.each(n.Sort.Args[1:], n.Args, fresh.Sort(n.Sort))
	case api.OSelect, api.OStore:
		return t.ofArray(n)
	case api.OBits:
		return wide(n.Bits.Width)
	}
	return t.ofBits(n)
}

func (t *Table) sortOf(i int) api.Sort { return t.records[i].sort }

// allOf is the sort ret, if all arguments are of one sort.
func (t *Table) allOf(s api.Sort, args []int, ret api.Sort) (api.Sort, api.Errno) {
	for _, i := range args {
		if !sort.Same(t.sortOf(i), s) {
			return api.Sort{}, api.ErrSorts
		}
	}
	return ret, api.OK
}

// each is the sort ret, if the arguments, as many as there are sorts, are of these, one by one.
func (t *Table) each(sorts []api.Sort, args []int, ret api.Sort) (api.Sort, api.Errno) {
	for k, i := range args {
		if !sort.Same(t.sortOf(i), sorts[k]) {
			return api.Sort{}, api.ErrSorts
		}
	}
	return ret, api.OK
}

func (t *Table) ofArray(n api.Node) (api.Sort, api.Errno) {
	array := t.sortOf(n.Args[0])
	if array.Kind != api.KArray {
		return api.Sort{}, api.ErrSorts
	}
	if n.Op == api.OSelect {
		return t.each(array.Args[:1], n.Args[1:], array.Args[1])
	}
	return t.each(array.Args, n.Args[1:], array)
}

// ofBits is of the Ops whose arguments are BitVecs; all but OConcat want them of one width.
func (t *Table) ofBits(n api.Node) (api.Sort, api.Errno) {
	first, last := t.sortOf(n.Args[0]), t.sortOf(n.Args[len(n.Args)-1])
	if first.Kind != api.KBits || last.Kind != api.KBits {
		return api.Sort{}, api.ErrSorts
	}
	if n.Op == api.OConcat {
		return wide(first.Width + last.Width)
	}
	if first.Width != last.Width {
		return api.Sort{}, api.ErrSorts
	}
	switch w := first.Width; n.Op {
	case api.OBvUlt, api.OBvUle, api.OBvUgt, api.OBvUge, api.OBvSlt, api.OBvSle, api.OBvSgt, api.OBvSge:
		return api.Sort{Kind: api.KBool}, api.OK
	case api.OBvComp:
		return wide(1)
	case api.OExtract:
		if n.Params[0] >= w {
			return api.Sort{}, api.ErrWidth
		}
		return wide(n.Params[0] - n.Params[1] + 1)
	case api.ORepeat:
		return wide(w * n.Params[0])
	case api.OZeroExt, api.OSignExt:
		return wide(w + n.Params[0])
	}
	return first, api.OK
}

// wide is the BitVec of so many bits, at least one.
func wide(w int) (api.Sort, api.Errno) {
	if w > api.MaxWidth {
		return api.Sort{}, api.ErrWidth
	}
	return api.Sort{Kind: api.KBits, Width: w}, api.OK
}

// linear tells whether the arguments are numerals that must be.
func (t *Table) linear(n api.Node) bool {
	switch n.Op {
	case api.OMul:
		_, first := t.numeral(n.Args[0])
		_, second := t.numeral(n.Args[1])
		return first || second
	case api.ODiv, api.OMod:
		amount, is := t.numeral(n.Args[1])
		return is && nat.Len(amount) > 0
	}
	return true
}

// numeral is the amount of one, and whether the term is one. It shares memory with the table.
func (t *Table) numeral(i int) (api.Nat, bool) {
	r := t.records[i]
	if r.Op == api.OMinus {
		r = t.records[r.Args[0]]
	}
	return r.Int.Mag, r.Op == api.ONum
}
