package rewrite_test

import (
	"math/big"
	"slices"

	"tribunal/api"
	"tribunal/sort"
	"tribunal/term"
	"tribunal/value"
)

// maker makes up terms of all sorts, and interpretations. Arguments are often terms that stand there already, so that rules have something to find.
type maker struct {
	*dice
	*term.Table
	sig  api.Sig
	pool map[string][]int // of the terms, by their sorts' texts
}

func newMaker(seed uint64, b *term.Table) *maker {
	return &maker{&dice{seed}, b, b.Sig(), map[string][]int{}}
}

func (k *maker) put(n api.Node) int {
	i, e := k.Add(n)
	if e != api.OK {
		panic(e)
	}
	s, _ := k.Sort(i)
	text, _ := sort.Text(s)
	if !slices.Contains(k.pool[text], i) {
		k.pool[text] = append(k.pool[text], i)
	}
	return i
}

func (k *maker) of(op api.Op, args ...int) int { return k.put(api.Node{Op: op, Args: args}) }

// anySort is one of those of the functions' values.
func (k *maker) anySort() api.Sort { return pick(k.dice, k.sig.Funs).Ret }

// term is one of a sort.
func (k *maker) term(s api.Sort, depth int) int {
	text, _ := sort.Text(s)
	if there := k.pool[text]; len(there) > 0 && k.below(3) == 0 {
		return pick(k.dice, there[max(0, len(there)-12):])
	}
	if depth <= 0 || k.below(7) == 0 {
		if i, ok := k.applied(s, depth); ok && k.below(2) == 0 {
			return i
		}
		return k.literal(s)
	}
	if k.below(12) == 0 {
		return k.of(api.OIte, k.term(boolean, depth-1), k.term(s, depth-1), k.term(s, depth-1))
	}
	if k.below(9) == 0 {
		if from, ok := k.arrayTo(s); ok {
			return k.of(api.OSelect, k.term(array(from, s), depth-1), k.term(from, depth-1))
		}
	}
	if k.below(9) == 0 {
		if i, ok := k.selected(s, depth-1); ok {
			return i
		}
	}
	switch s.Kind {
	case api.KBool:
		return k.truth(depth - 1)
	case api.KInt:
		return k.number(depth - 1)
	case api.KBits:
		return k.vector(s.Width, depth-1)
	case api.KArray:
		if k.below(5) == 0 {
			return k.put(api.Node{Op: api.OConst, Sort: s, Args: []int{k.term(s.Args[1], depth-1)}})
		}
		return k.of(api.OStore, k.term(s, depth-1), k.term(s.Args[0], depth-1), k.term(s.Args[1], depth-1))
	case api.KData:
		return k.tree(s, depth-1)
	}
	i, _ := k.applied(s, depth-1)
	return i
}

func (k *maker) terms(s api.Sort, many, depth int) []int {
	var list []int
	for range many {
		list = append(list, k.term(s, depth))
	}
	return list
}

// applied is a function of that sort at some arguments.
func (k *maker) applied(s api.Sort, depth int) (int, bool) {
	var fits []api.Fun
	for _, f := range k.sig.Funs {
		if sort.Same(f.Ret, s) && (depth > 0 || len(f.Args) == 0) {
			fits = append(fits, f)
		}
	}
	if len(fits) == 0 {
		return 0, false
	}
	f := pick(k.dice, fits)
	n := api.Node{Op: api.OFun, Name: f.Name}
	for _, arg := range f.Args {
		n.Args = append(n.Args, k.term(arg, depth-1))
	}
	return k.put(n), true
}

// literal is a term of a sort that needs no others, or few.
func (k *maker) literal(s api.Sort) int {
	switch s.Kind {
	case api.KBool:
		return k.of(api.OTrue + api.Op(k.below(2)))
	case api.KInt:
		return k.put(api.Node{Op: api.ONum, Int: intOf(big.NewInt(int64(k.below(9) - 3)))})
	case api.KBits:
		return k.put(api.Node{Op: api.OBits, Bits: k.bits(s.Width)})
	case api.KArray:
		return k.put(api.Node{Op: api.OConst, Sort: s, Args: []int{k.literal(s.Args[1])}})
	case api.KData:
		return k.tree(s, 0)
	}
	i, _ := k.applied(s, 0)
	return i
}

// bits are often 0, 1 or -1.
func (k *maker) bits(width int) api.Bits {
	n := big.NewInt(int64(k.below(6)) - 2)
	top := new(big.Int).Lsh(big.NewInt(1), uint(width))
	return api.Bits{Width: width, Val: limbsOf(n.And(n, top.Sub(top, big.NewInt(1))))}
}

func (k *maker) arrayTo(s api.Sort) (api.Sort, bool) {
	for _, f := range k.sig.Funs {
		if f.Ret.Kind == api.KArray && sort.Same(f.Ret.Args[1], s) && k.below(2) == 0 {
			return f.Ret.Args[0], true
		}
	}
	return api.Sort{}, false
}

func (k *maker) selected(s api.Sort, depth int) (int, bool) {
	var list []api.Node
	var of []api.Sort
	for _, d := range k.sig.Datas {
		for _, c := range d.Cons {
			for _, x := range c.Sels {
				if sort.Same(x.Sort, s) {
					list, of = append(list, api.Node{Op: api.OSel, Name: x.Name}), append(of, data(d.Name))
				}
			}
		}
	}
	if len(list) == 0 {
		return 0, false
	}
	i := k.below(len(list))
	list[i].Args = []int{k.term(of[i], depth)}
	return k.put(list[i]), true
}

func (k *maker) tree(s api.Sort, depth int) int {
	if i, ok := k.applied(s, depth); ok && k.below(4) == 0 {
		return i
	}
	for _, d := range k.sig.Datas {
		if d.Name == s.Name {
			c := pick(k.dice, d.Cons)
			if depth <= 0 {
				c = d.Cons[0]
			}
			n := api.Node{Op: api.OCon, Name: c.Name}
			for _, x := range c.Sels {
				n.Args = append(n.Args, k.term(x.Sort, depth-1))
			}
			return k.put(n)
		}
	}
	panic("no datatype " + s.Name)
}

func (k *maker) truth(depth int) int {
	many := 2 + k.below(3)
	if k.below(40) == 0 {
		many = 40 + k.below(25)
	}
	switch op := pick(k.dice, []api.Op{api.ONot, api.ONot, api.OAnd, api.OAnd, api.OOr, api.OOr, api.OXor, api.OImplies, api.OEq, api.OEq, api.ODistinct, api.OFun, api.OIs, api.OLe, api.OLt, api.OGe, api.OGt, api.OBvUlt}); op {
	case api.ONot:
		return k.of(op, k.term(boolean, depth))
	case api.OAnd, api.OOr:
		return k.of(op, k.terms(boolean, many, depth)...)
	case api.OXor, api.OImplies:
		return k.of(op, k.terms(boolean, 2, depth)...)
	case api.OEq:
		return k.of(op, k.terms(k.anySort(), 2, depth)...)
	case api.ODistinct:
		if k.below(8) == 0 {
			many = 10 + k.below(5)
		}
		return k.of(op, k.terms(k.anySort(), min(many, 20), depth)...)
	case api.OIs:
		d := pick(k.dice, k.sig.Datas)
		return k.put(api.Node{Op: op, Name: pick(k.dice, d.Cons).Name, Args: k.terms(data(d.Name), 1, depth)})
	case api.OLe, api.OLt, api.OGe, api.OGt:
		return k.of(op, k.terms(integer, 2, depth)...)
	case api.OBvUlt:
		return k.of(op+api.Op(k.below(8)), k.terms(wide(pick(k.dice, []int{1, 4})), 2, depth)...)
	}
	i, _ := k.applied(boolean, depth)
	return i
}

func (k *maker) number(depth int) int {
	many := 2 + k.below(3)
	if k.below(40) == 0 {
		many = 40 + k.below(25)
	}
	switch op := pick(k.dice, []api.Op{api.OFun, api.OMinus, api.OAdd, api.OAdd, api.OAdd, api.OSub, api.OSub, api.OMul, api.OMul, api.ODiv, api.OMod, api.OAbs}); op {
	case api.OMinus, api.OAbs:
		return k.of(op, k.term(integer, depth))
	case api.OAdd:
		return k.of(op, k.terms(integer, many, depth)...)
	case api.OSub:
		return k.of(op, k.terms(integer, 2, depth)...)
	case api.OMul:
		args := []int{k.numeral(), k.term(integer, depth)}
		if k.below(2) == 0 {
			slices.Reverse(args)
		}
		return k.of(op, args...)
	case api.ODiv, api.OMod:
		by := k.numeral()
		for k.isZero(by) {
			by = k.numeral()
		}
		return k.of(op, k.term(integer, depth), by)
	}
	i, _ := k.applied(integer, depth)
	return i
}

func (k *maker) numeral() int {
	i := k.literal(integer)
	if k.below(3) == 0 {
		i = k.of(api.OMinus, i)
	}
	return i
}

func (k *maker) isZero(i int) bool {
	n, _ := k.Node(i)
	if n.Op == api.OMinus {
		n, _ = k.Node(n.Args[0])
	}
	return len(n.Int.Mag) == 0
}

func (k *maker) vector(w, depth int) int {
	switch op := api.OConcat + api.Op(k.below(int(api.ORotR-api.OConcat)+1)); op {
	case api.OConcat:
		if w > 1 {
			left := 1 + k.below(w-1)
			return k.of(op, k.term(wide(left), depth), k.term(wide(w-left), depth))
		}
	case api.OExtract:
		from := w + k.below(4)
		low := k.below(from - w + 1)
		return k.put(api.Node{Op: op, Params: []int{low + w - 1, low}, Args: []int{k.term(wide(from), depth)}})
	case api.OBvNot, api.OBvNeg:
		return k.of(op, k.term(wide(w), depth))
	case api.OBvComp:
		if w == 1 {
			return k.of(op, k.terms(wide(4), 2, depth)...)
		}
	case api.ORepeat:
		many := pick(k.dice, []int{1, 2, 4})
		if w%many == 0 {
			return k.put(api.Node{Op: op, Params: []int{many}, Args: []int{k.term(wide(w/many), depth)}})
		}
	case api.OZeroExt, api.OSignExt:
		by := min(k.below(3), w-1)
		return k.put(api.Node{Op: op, Params: []int{by}, Args: []int{k.term(wide(w-by), depth)}})
	case api.ORotL, api.ORotR:
		return k.put(api.Node{Op: op, Params: []int{k.below(3) * k.below(3)}, Args: []int{k.term(wide(w), depth)}})
	default:
		return k.of(op, k.terms(wide(w), 2, depth)...)
	}
	return k.literal(wide(w))
}

// value is one of a sort, and not too great.
func (k *maker) value(s api.Sort, depth int) api.Value {
	switch s.Kind {
	case api.KBool:
		return api.Value{Kind: api.VBool, Bool: k.below(2) == 0}
	case api.KInt:
		return api.Value{Kind: api.VInt, Int: intOf(big.NewInt(int64(k.below(9) - 4)))}
	case api.KBits:
		return api.Value{Kind: api.VBits, Bits: k.bits(s.Width)}
	case api.KUser:
		return api.Value{Kind: api.VElem, Name: s.Name, Index: k.below(3)}
	case api.KArray:
		v := api.Value{Kind: api.VArray, Sort: s, Else: []api.Value{k.value(s.Args[1], depth-1)}}
		for range k.below(5) {
			v.Rows = append(v.Rows, api.Row{Key: k.value(s.Args[0], depth-1), Val: k.value(s.Args[1], depth-1)})
		}
		return v
	}
	if depth <= 0 {
		first, _ := value.Default(s, k.sig)
		return first
	}
	for _, d := range k.sig.Datas {
		if d.Name == s.Name {
			c := pick(k.dice, d.Cons)
			v := api.Value{Kind: api.VTree, Name: c.Name}
			for _, x := range c.Sels {
				v.Args = append(v.Args, k.value(x.Sort, depth-1))
			}
			return v
		}
	}
	panic("no datatype " + s.Name)
}

// interp is an interpretation of all functions and selectors but a few.
func (k *maker) interp() api.Interp {
	funs := slices.Clone(k.sig.Funs)
	for _, d := range k.sig.Datas {
		for _, c := range d.Cons {
			for _, x := range c.Sels {
				funs = append(funs, api.Fun{Name: x.Name, Args: []api.Sort{data(d.Name)}, Ret: x.Sort})
			}
		}
	}
	var in api.Interp
	for _, f := range funs {
		if k.below(8) == 0 {
			continue
		}
		v := api.FunVal{Name: f.Name, Else: k.value(f.Ret, 2)}
		for range k.below(6) {
			c := api.Case{Val: k.value(f.Ret, 2)}
			for _, s := range f.Args {
				c.Args = append(c.Args, k.value(s, 2))
			}
			v.Cases = append(v.Cases, c)
		}
		in.Funs = append(in.Funs, v)
	}
	return in
}
