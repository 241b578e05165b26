package eval_test

import (
	"math/big"
	"slices"

	"tribunal/api"
	"tribunal/sort"
	"tribunal/term"
	"tribunal/value"
)

// model is the chapter's words done in the plainest way. Its values are of any form: an array gets a row for each store, and two arrays over a sort with a small count are held against each other key by key.
type model struct {
	b    *term.Table
	g    api.Sig
	in   api.Interp
	done map[int]api.Value
}

// small is a count up to which the model goes through all values.
const small = 64

func newModel(b *term.Table, g api.Sig, in api.Interp) *model {
	return &model{b, g, in, map[int]api.Value{}}
}

func (m *model) con(name string) (api.Datatype, api.Con) {
	for _, d := range m.g.Datas {
		for _, c := range d.Cons {
			if c.Name == name {
				return d, c
			}
		}
	}
	panic("no constructor " + name)
}

// declared is what a name is: its arguments' sorts and its own; of a selector also its constructor and its place.
func (m *model) declared(name string) (args []api.Sort, ret api.Sort, of string, place int) {
	for _, f := range m.g.Funs {
		if f.Name == name {
			return f.Args, f.Ret, "", 0
		}
	}
	for _, d := range m.g.Datas {
		for _, c := range d.Cons {
			for i, s := range c.Sels {
				if s.Name == name {
					return []api.Sort{data(d.Name)}, s.Sort, c.Name, i
				}
			}
		}
	}
	panic("no function " + name)
}

// same asks of arrays at all keys: if there are too many, at those of the rows and at one that is in none.
func (m *model) same(a, b api.Value, s api.Sort) bool {
	switch s.Kind {
	case api.KData:
		if a.Name != b.Name {
			return false
		}
		_, c := m.con(a.Name)
		for i, sel := range c.Sels {
			if !m.same(a.Args[i], b.Args[i], sel.Sort) {
				return false
			}
		}
		return true
	case api.KArray:
		keys, ok := value.All(s.Args[0], m.g, small)
		if !ok {
			if !m.same(a.Else[0], b.Else[0], s.Args[1]) {
				return false
			}
			for _, r := range slices.Concat(a.Rows, b.Rows) {
				keys = append(keys, r.Key)
			}
		}
		for _, k := range keys {
			if !m.same(m.at(a, k, s), m.at(b, k, s), s.Args[1]) {
				return false
			}
		}
		return true
	case api.KBool:
		return a.Bool == b.Bool
	case api.KInt:
		return numberOf(a).Cmp(numberOf(b)) == 0
	case api.KBits:
		return unsignedOf(a).Cmp(unsignedOf(b)) == 0
	}
	return a.Index == b.Index
}

// at is what an array has at a key: of the last row with that key; Else's, if there is none.
func (m *model) at(v, key api.Value, s api.Sort) api.Value {
	for _, r := range slices.Backward(v.Rows) {
		if m.same(r.Key, key, s.Args[0]) {
			return r.Val
		}
	}
	return v.Else[0]
}

// function is what a function or a selector is somewhere.
func (m *model) function(name string, args []api.Value) api.Value {
	sorts, ret, of, place := m.declared(name)
	if of != "" && args[0].Name == of {
		return args[0].Args[place]
	}
	for _, f := range m.in.Funs {
		if f.Name != name {
			continue
		}
		for _, c := range f.Cases {
			all := true
			for i, s := range sorts {
				all = all && m.same(c.Args[i], args[i], s)
			}
			if all {
				return c.Val
			}
		}
		return f.Else
	}
	first, e := value.Default(ret, m.g)
	if e != api.OK {
		panic("no first value")
	}
	return first
}

// norm is what a term is, in normal form.
func (m *model) norm(i int) api.Value {
	s, _ := m.b.Sort(i)
	n, e := value.Norm(m.term(i), s, m.g)
	if e != api.OK {
		panic("no normal form")
	}
	return n
}

func (m *model) term(i int) api.Value {
	if v, known := m.done[i]; known {
		return v
	}
	n, ok := m.b.Node(i)
	if !ok {
		panic("no term")
	}
	var args []api.Value
	var of api.Sort
	for k, arg := range n.Args {
		args = append(args, m.term(arg))
		if k == 0 {
			of, _ = m.b.Sort(arg)
		}
	}
	v := m.is(n, args, of)
	m.done[i] = v
	return v
}

// is what a term is, whose first argument is of that sort.
func (m *model) is(n api.Node, args []api.Value, of api.Sort) api.Value {
	truths := func(want bool) int {
		many := 0
		for _, v := range args {
			if v.Kind == api.VBool && v.Bool == want {
				many++
			}
		}
		return many
	}
	switch n.Op {
	case api.OTrue:
		return yes(true)
	case api.OFalse:
		return yes(false)
	case api.ONot:
		return yes(truths(false) == 1)
	case api.OAnd:
		return yes(truths(false) == 0)
	case api.OOr:
		return yes(truths(true) > 0)
	case api.OXor:
		return yes(truths(true) == 1)
	case api.OImplies:
		return yes(!(args[0].Bool && !args[1].Bool))
	case api.OEq:
		return yes(m.same(args[0], args[1], of))
	case api.ODistinct:
		for i := range args {
			for j := range i {
				if m.same(args[i], args[j], of) {
					return yes(false)
				}
			}
		}
		return yes(true)
	case api.OIte:
		if args[0].Bool {
			return args[1]
		}
		return args[2]
	case api.OFun, api.OSel:
		return m.function(n.Name, args)
	case api.OCon:
		return tree(n.Name, args...)
	case api.OIs:
		return yes(args[0].Name == n.Name)
	case api.OSelect:
		return m.at(args[0], args[1], of)
	case api.OStore:
		return arr(of, args[0].Else[0], append(slices.Clone(args[0].Rows), row(args[1], args[2]))...)
	case api.OConst:
		return arr(n.Sort, args[0])
	}
	if n.Op < api.OSelect {
		return ofNumbers(n, args)
	}
	return ofBits(n, args)
}

func numberOf(v api.Value) *big.Int { return bigOf(v.Int.Neg, v.Int.Mag) }

func ofNumbers(n api.Node, args []api.Value) api.Value {
	var x []*big.Int
	for _, v := range args {
		x = append(x, numberOf(v))
	}
	z := new(big.Int)
	switch n.Op {
	case api.ONum:
		return api.Value{Kind: api.VInt, Int: n.Int}
	case api.OMinus:
		return great(z.Neg(x[0]))
	case api.OAbs:
		return great(z.Abs(x[0]))
	case api.OAdd:
		for _, y := range x {
			z.Add(z, y)
		}
		return great(z)
	case api.OSub:
		return great(z.Sub(x[0], x[1]))
	case api.OMul:
		return great(z.Mul(x[0], x[1]))
	case api.ODiv:
		return great(z.Div(x[0], x[1])) // Euclid's, as SMT-LIB's
	case api.OMod:
		return great(z.Mod(x[0], x[1]))
	}
	way := x[0].Cmp(x[1])
	return yes(map[api.Op]bool{api.OLe: way < 1, api.OLt: way == -1, api.OGe: way > -1, api.OGt: way == 1}[n.Op])
}

func unsignedOf(v api.Value) *big.Int { return bigOf(false, v.Bits.Val) }

func signedOf(v api.Value) *big.Int {
	u := unsignedOf(v)
	if u.Bit(v.Bits.Width-1) == 1 {
		u.Sub(u, pow(v.Bits.Width))
	}
	return u
}

// modulo is the vector of a number.
func modulo(width int, n *big.Int) api.Value {
	return vec(width, limbsOf(new(big.Int).Mod(n, pow(width)))...)
}

// ofBits is by the table of chapter 9.
func ofBits(n api.Node, args []api.Value) api.Value {
	if n.Op == api.OBits {
		return api.Value{Kind: api.VBits, Bits: n.Bits}
	}
	w, u, s := args[0].Bits.Width, unsignedOf(args[0]), signedOf(args[0])
	if len(args) == 2 {
		return ofTwo(n.Op, w, args[1].Bits.Width, u, unsignedOf(args[1]), s, signedOf(args[1]))
	}
	z := new(big.Int)
	switch n.Op {
	case api.OExtract:
		return modulo(n.Params[0]-n.Params[1]+1, z.Rsh(u, uint(n.Params[1])))
	case api.OBvNot:
		return modulo(w, z.Not(u))
	case api.OBvNeg:
		return modulo(w, z.Neg(u))
	case api.ORepeat:
		for range n.Params[0] {
			z.Add(z.Lsh(z, uint(w)), u)
		}
		return modulo(n.Params[0]*w, z)
	case api.OZeroExt:
		return modulo(w+n.Params[0], u)
	case api.OSignExt:
		return modulo(w+n.Params[0], s)
	}
	by := n.Params[0]
	if n.Op == api.ORotR {
		by = -by
	}
	for i := range w {
		from := ((i-by)%w + w) % w
		z.SetBit(z, i, u.Bit(from))
	}
	return modulo(w, z)
}

func ofTwo(op api.Op, w, w2 int, u, v, s, t *big.Int) api.Value {
	z := new(big.Int)
	ones := new(big.Int).Sub(pow(w), big.NewInt(1))
	far := !v.IsInt64() || v.Int64() >= int64(w)
	by := uint(min(v.Uint64(), uint64(w)))
	if far {
		by = uint(w)
	}
	switch op {
	case api.OConcat:
		return modulo(w+w2, z.Add(z.Lsh(u, uint(w2)), v))
	case api.OBvAnd:
		return modulo(w, z.And(u, v))
	case api.OBvOr:
		return modulo(w, z.Or(u, v))
	case api.OBvXor:
		return modulo(w, z.Xor(u, v))
	case api.OBvNand:
		return modulo(w, z.Not(z.And(u, v)))
	case api.OBvNor:
		return modulo(w, z.Not(z.Or(u, v)))
	case api.OBvXnor:
		return modulo(w, z.Not(z.Xor(u, v)))
	case api.OBvComp:
		return modulo(1, big.NewInt(map[bool]int64{true: 1}[u.Cmp(v) == 0]))
	case api.OBvAdd:
		return modulo(w, z.Add(u, v))
	case api.OBvSub:
		return modulo(w, z.Sub(u, v))
	case api.OBvMul:
		return modulo(w, z.Mul(u, v))
	case api.OBvShl:
		return modulo(w, z.Lsh(u, by))
	case api.OBvLshr:
		return modulo(w, z.Rsh(u, by))
	case api.OBvAshr:
		return modulo(w, z.Rsh(s, by))
	case api.OBvUlt, api.OBvUle, api.OBvUgt, api.OBvUge:
		way := u.Cmp(v)
		return yes(map[api.Op]bool{api.OBvUlt: way < 0, api.OBvUle: way <= 0, api.OBvUgt: way > 0, api.OBvUge: way >= 0}[op])
	case api.OBvSlt, api.OBvSle, api.OBvSgt, api.OBvSge:
		way := s.Cmp(t)
		return yes(map[api.Op]bool{api.OBvSlt: way < 0, api.OBvSle: way <= 0, api.OBvSgt: way > 0, api.OBvSge: way >= 0}[op])
	}
	if v.Sign() == 0 {
		return modulo(w, map[api.Op]*big.Int{api.OBvUdiv: ones, api.OBvUrem: u, api.OBvSdiv: big.NewInt(map[bool]int64{true: 1, false: -1}[s.Sign() < 0]), api.OBvSrem: s, api.OBvSmod: s}[op])
	}
	switch op {
	case api.OBvUdiv:
		return modulo(w, z.Quo(u, v))
	case api.OBvUrem:
		return modulo(w, z.Rem(u, v))
	case api.OBvSdiv:
		return modulo(w, z.Quo(s, t))
	case api.OBvSrem:
		return modulo(w, z.Rem(s, t))
	}
	rest := z.Rem(s, t) // OBvSmod's has the sign of t
	if rest.Sign() != 0 && rest.Sign() != t.Sign() {
		rest.Add(rest, t)
	}
	return modulo(w, rest)
}

// value is one of a sort in any form, and not too great.
func (d *dice) value(g api.Sig, s api.Sort, depth int) api.Value {
	switch s.Kind {
	case api.KBool:
		return yes(d.below(2) == 0)
	case api.KInt:
		mag := pick(d, []api.Nat{nil, {0}, {1}, {2}, {1, 0, 0}, {3}, {0, 1, 0}, {5, 7}})
		return api.Value{Kind: api.VInt, Int: api.Int{Neg: d.below(3) == 0, Mag: slices.Clone(mag)}}
	case api.KBits:
		n := new(big.Int).And(big.NewInt(int64(d.below(10))-3), new(big.Int).Sub(pow(s.Width), big.NewInt(1)))
		return vec(s.Width, append(limbsOf(n), make(api.Nat, d.below(3))...)...)
	case api.KUser:
		return elem(s.Name, d.below(3))
	case api.KArray:
		v := arr(s, d.value(g, s.Args[1], depth-1))
		for range d.below(6) {
			v.Rows = append(v.Rows, row(d.value(g, s.Args[0], depth-1), d.value(g, s.Args[1], depth-1)))
		}
		return v
	}
	if depth <= 0 {
		first, _ := value.Default(s, g)
		return first
	}
	for _, data := range g.Datas {
		if data.Name == s.Name {
			c := pick(d, data.Cons)
			v := tree(c.Name)
			for _, sel := range c.Sels {
				v.Args = append(v.Args, d.value(g, sel.Sort, depth-1))
			}
			return v
		}
	}
	panic("no datatype " + s.Name)
}

// formed is the same value in another form: other limbs, rows in another order, rows that say what is said anyway.
func (d *dice) formed(g api.Sig, v api.Value, s api.Sort) api.Value {
	switch s.Kind {
	case api.KInt:
		v.Int.Mag = append(slices.Clone(v.Int.Mag), make(api.Nat, d.below(3))...)
		v.Int.Neg = v.Int.Neg || numberOf(v).Sign() == 0 && d.below(2) == 0
	case api.KBits:
		v.Bits.Val = append(slices.Clone(v.Bits.Val), make(api.Nat, d.below(3))...)
	case api.KData:
		v.Args = slices.Clone(v.Args)
		_, c := (&model{g: g}).con(v.Name)
		for i, sel := range c.Sels {
			v.Args[i] = d.formed(g, v.Args[i], sel.Sort)
		}
	case api.KArray:
		return d.formedArray(g, v, s)
	}
	return v
}

func (d *dice) formedArray(g api.Sig, v api.Value, s api.Sort) api.Value {
	n, _ := value.Norm(v, s, g)
	out := arr(s, d.formed(g, n.Else[0], s.Args[1]))
	rows := n.Rows
	if keys, ok := value.All(s.Args[0], g, small); ok && d.below(2) == 0 { // all keys said, and another value for those that are not
		out = arr(s, d.value(g, s.Args[1], 1))
		rows = nil
		for _, k := range keys {
			rows = append(rows, row(k, (&model{g: g}).at(n, k, s)))
		}
	}
	for _, r := range mixed(d, rows) {
		if d.below(3) == 0 { // said wrong, and right behind it
			out.Rows = append(out.Rows, row(d.formed(g, r.Key, s.Args[0]), d.value(g, s.Args[1], 0)))
		}
		out.Rows = append(out.Rows, row(d.formed(g, r.Key, s.Args[0]), d.formed(g, r.Val, s.Args[1])))
	}
	return out
}

// interp is an interpretation that may be, in which some have no FunVal, and Cases may have the same Args in other forms.
func (d *dice) interp(g api.Sig) api.Interp {
	type name struct {
		name string
		args []api.Sort
		ret  api.Sort
	}
	var names []name
	for _, f := range g.Funs {
		names = append(names, name{f.Name, f.Args, f.Ret})
	}
	for _, data := range g.Datas {
		for _, c := range data.Cons {
			for _, s := range c.Sels {
				names = append(names, name{s.Name, []api.Sort{{Kind: api.KData, Name: data.Name}}, s.Sort})
			}
		}
	}
	var in api.Interp
	for _, n := range mixed(d, names) {
		if d.below(4) == 0 {
			continue
		}
		f := funval(n.name, d.value(g, n.ret, 3))
		for range d.below(9) {
			c := kase(d.value(g, n.ret, 3))
			if len(f.Cases) > 0 && d.below(3) == 0 {
				for i, v := range pick(d, f.Cases).Args {
					c.Args = append(c.Args, d.formed(g, v, n.args[i]))
				}
			} else {
				for _, s := range n.args {
					c.Args = append(c.Args, d.value(g, s, 2))
				}
			}
			f.Cases = append(f.Cases, c)
		}
		in.Funs = append(in.Funs, f)
	}
	return in
}

// ops are all of chapter 5's table.
func ops() []api.Op {
	var list []api.Op
	for op := api.OTrue; op <= api.OBvSge; op++ {
		if op <= api.OIs || op >= api.ONum && op <= api.OConst || op >= api.OBits {
			list = append(list, op)
		}
	}
	return list
}

// node is one that may fit into a table, of any Op.
func (d *dice) node(b *term.Table, g api.Sig, op api.Op) api.Node {
	n := api.Node{Op: op}
	some := func() int { return d.below(max(1, b.Len())) }
	of := func(s api.Sort) int { // of terms of a sort, if some are soon found
		for range 300 {
			i := some()
			if has, _ := b.Sort(i); sort.Same(has, s) {
				return i
			}
		}
		return some()
	}
	all := func(sorts []api.Sort) {
		for _, s := range sorts {
			n.Args = append(n.Args, of(s))
		}
	}
	switch op {
	case api.OTrue, api.OFalse:
	case api.ONot:
		all([]api.Sort{boolean})
	case api.OXor, api.OImplies:
		all([]api.Sort{boolean, boolean})
	case api.OAnd, api.OOr:
		all(slices.Repeat([]api.Sort{boolean}, 2+d.below(3)))
	case api.OEq, api.ODistinct:
		i := some()
		s, _ := b.Sort(i)
		n.Args = []int{i}
		all(slices.Repeat([]api.Sort{s}, 1+d.below(3)*int(op-api.OEq)))
	case api.OIte:
		i := some()
		s, _ := b.Sort(i)
		n.Args = []int{of(boolean), i, of(s)}
	case api.OFun:
		f := pick(d, g.Funs)
		n.Name = f.Name
		all(f.Args)
	case api.OCon, api.OIs, api.OSel:
		data := pick(d, g.Datas)
		c := pick(d, data.Cons)
		n.Name = c.Name
		if op == api.OCon {
			for _, s := range c.Sels {
				n.Args = append(n.Args, of(s.Sort))
			}
			break
		}
		if op == api.OSel && len(c.Sels) > 0 {
			n.Name = pick(d, c.Sels).Name
		}
		all([]api.Sort{{Kind: api.KData, Name: data.Name}})
	case api.ONum:
		n.Int = d.value(g, integer, 0).Int
	case api.OMinus, api.OAbs:
		all([]api.Sort{integer})
	case api.OAdd:
		all(slices.Repeat([]api.Sort{integer}, 2+d.below(3)))
	case api.OSub, api.OMul, api.ODiv, api.OMod, api.OLe, api.OLt, api.OGe, api.OGt:
		all([]api.Sort{integer, integer})
	case api.OSelect, api.OStore:
		f := pick(d, g.Funs)
		for f.Ret.Kind != api.KArray {
			f = pick(d, g.Funs)
		}
		all([]api.Sort{f.Ret, f.Ret.Args[0], f.Ret.Args[1]})
		if op == api.OSelect {
			n.Args = n.Args[:2]
		}
	case api.OConst:
		f := pick(d, g.Funs)
		for f.Ret.Kind != api.KArray {
			f = pick(d, g.Funs)
		}
		n.Sort = f.Ret
		all([]api.Sort{f.Ret.Args[1]})
	case api.OBits:
		n.Bits = d.value(g, wide(pick(d, []int{1, 2, 3, 3, 4, 65})), 0).Bits
	default:
		w := wide(pick(d, []int{1, 2, 3, 3, 3, 65}))
		all([]api.Sort{w, w})
		n.Params = []int{d.below(4)}
		switch op {
		case api.OExtract:
			n.Params = []int{d.below(4), d.below(3)}
			n.Args = n.Args[:1]
		case api.OBvNot, api.OBvNeg, api.ORepeat, api.OZeroExt, api.OSignExt, api.ORotL, api.ORotR:
			n.Args = n.Args[:1]
		}
	}
	return n
}
