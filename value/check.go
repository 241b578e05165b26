package value

import (
	"tribunal/api"
	"tribunal/bits"
	"tribunal/sort"
	"tribunal/whole"
)

func (d *domain) check(v api.Value) api.Errno {
	left := api.MaxParts
	switch {
	case !fits(&v, &left):
		return api.ErrMany
	case !d.has(&v):
		return api.ErrValue
	}
	return api.OK
}

// fits tells whether a value has no more parts than are left; it looks at no more of them, so that it ends on values that hold themselves.
func fits(v *api.Value, left *int) bool {
	if *left == 0 {
		return false
	}
	*left--
	for i := range v.Rows {
		if !fits(&v.Rows[i].Key, left) || !fits(&v.Rows[i].Val, left) {
			return false
		}
	}
	return allOf(v.Args, func(_ int, arg *api.Value) bool { return fits(arg, left) }) &&
		allOf(v.Else, func(_ int, other *api.Value) bool { return fits(other, left) })
}

func allOf(list []api.Value, so func(i int, v *api.Value) bool) bool {
	for i := range list {
		if !so(i, &list[i]) {
			return false
		}
	}
	return true
}

// has tells whether a value of no more than MaxParts parts is one of the domain.
func (d *domain) has(v *api.Value) bool {
	k := kindOf(v)
	if !bare(k.rest()) {
		return false
	}
	switch x := k.(type) {
	case truth:
		return d.Kind == api.KBool
	case number:
		return d.Kind == api.KInt && len(whole.Norm(x.Int).Mag) <= api.MaxLimbs
	case vector:
		return d.Kind == api.KBits && x.Bits.Width == d.Width && bits.Right(x.Bits)
	case tree:
		return d.Kind == api.KData && d.hasTree(x)
	case array:
		return d.Kind == api.KArray && d.hasArray(x)
	case element:
		return d.Kind == api.KUser && x.Name == d.Name && x.Index >= 0
	}
	return false
}

func (d *domain) hasTree(x tree) bool {
	con, ok := d.con(x.Name)
	return ok && len(x.Args) == len(con.args) &&
		allOf(x.Args, func(i int, arg *api.Value) bool { return con.args[i].has(arg) })
}

func (d *domain) hasArray(x array) bool {
	if !sort.Same(x.Sort, d.Sort) || len(x.Else) != 1 || !d.to.has(&x.Else[0]) {
		return false
	}
	for i := range x.Rows {
		if !d.from.has(&x.Rows[i].Key) || !d.to.has(&x.Rows[i].Val) {
			return false
		}
	}
	return true
}

// bare tells whether all fields but the Kind are zero or empty.
func bare(v api.Value) bool {
	return !v.Bool && !v.Int.Neg && len(v.Int.Mag) == 0 && v.Bits.Width == 0 && len(v.Bits.Val) == 0 &&
		v.Name == "" && v.Index == 0 && v.Sort.Kind == 0 && v.Sort.Width == 0 && v.Sort.Name == "" &&
		len(v.Sort.Args)+len(v.Args)+len(v.Rows)+len(v.Else) == 0
}
