package rewrite_test

import (
	"math/big"
	"slices"
	"testing"

	"tribunal/api"
	"tribunal/eval"
)

// model is the chapter's words about Simplify and Basic, on terms written out.
type model struct {
	*world // a table of its own, where literals are worked out and sorts are asked
	heads  map[api.Op]string
	turns  []turn
	few    []turn
	done   map[string]*tree
	basics map[string]*tree
	used   map[string]int // how often each rule applied, by its line
}

// turn is a line of a rule: what it makes of a term; nil, where it does not apply.
type turn struct {
	line string
	make func(x *tree) *tree
}

// tooLong is what the model panics with where a literal would be too long a number.
type tooLong struct{}

func newModel(t *testing.T, g api.Sig) *model {
	m := &model{world: newWorld(t, g), heads: names(), done: map[string]*tree{}, basics: map[string]*tree{}, used: map[string]int{}}
	m.turns = m.chapter()
	m.few = m.fewOperators()
	return m
}

func (m *model) grow(n api.Node, args ...*tree) *tree { return grow(m.heads, n, args) }

func (m *model) app(op api.Op, args ...*tree) *tree { return m.grow(api.Node{Op: op}, args...) }

func (m *model) number(n *big.Int) *tree { return m.grow(api.Node{Op: api.ONum, Int: intOf(n)}) }

func (m *model) truth(is bool) *tree {
	if is {
		return m.app(api.OTrue)
	}
	return m.app(api.OFalse)
}

// add is a tree's number in the model's own table.
func (m *model) add(x *tree) int {
	n := x.node
	for _, arg := range x.args {
		n.Args = append(n.Args, m.add(arg))
	}
	return m.put(n)
}

func (m *model) sortOf(x *tree) api.Sort {
	s, _ := m.Sort(m.add(x))
	return s
}

func literal(x *tree) bool {
	return slices.Contains([]api.Op{api.OTrue, api.OFalse, api.ONum, api.OBits}, x.node.Op)
}

// neg is the chapter's negation.
func (m *model) neg(x *tree) *tree {
	switch x.node.Op {
	case api.OTrue:
		return m.truth(false)
	case api.OFalse:
		return m.truth(true)
	case api.ONot:
		return x.args[0]
	}
	return m.app(api.ONot, x)
}

func same(a, b *tree) bool { return a.text == b.text }

// simple is what a term is, simplified.
func (m *model) simple(x *tree) *tree {
	if y := m.done[x.text]; y != nil {
		return y
	}
	var args []*tree
	for _, arg := range x.args {
		args = append(args, m.simple(arg))
	}
	y := m.grow(x.node, args...)
	for _, t := range m.turns {
		if next := t.make(y); next != nil {
			m.used[t.line]++
			y = m.simple(next)
			break
		}
	}
	m.done[x.text] = y
	return y
}

// basic is a term in few operators.
func (m *model) basic(x *tree) *tree {
	if y := m.basics[x.text]; y != nil {
		return y
	}
	var args []*tree
	for _, arg := range x.args {
		args = append(args, m.basic(arg))
	}
	y := m.grow(x.node, args...)
	for _, t := range m.few {
		if next := t.make(y); next != nil {
			m.used["basic "+t.line]++
			y = next
			break
		}
	}
	m.basics[x.text] = y
	return y
}

// line is a rule that is told by a pattern: `from : to`. Letters stand for any terms, (neg a) for the negation of a, #n for the OBits of n.
func (m *model) line(from, to string) turn {
	left, right := parse(from), parse(to)
	return turn{from + " : " + to, func(x *tree) *tree {
		bound := map[string]*tree{}
		if !m.match(left, x, bound) {
			return nil
		}
		return m.build(right, x, bound)
	}}
}

func (m *model) match(pattern sx, x *tree, bound map[string]*tree) bool {
	switch atom := pattern.atom; {
	case atom == "":
		break
	case atom == "true" || atom == "false" || atom == "0" || atom == "1" || atom == "-1":
		return x.text == atom
	case atom[0] == '#':
		return x.node.Op == api.OBits && x.text == m.vector(atom[1:], x.node.Bits.Width).text
	case bound[atom] != nil:
		return same(bound[atom], x)
	default:
		bound[atom] = x
		return true
	}
	head, rest := pattern.list[0].atom, pattern.list[1:]
	if head == "neg" {
		return same(m.neg(bound[rest[0].atom]), x)
	}
	if m.heads[x.node.Op] != head || len(x.args) != len(rest) {
		return false
	}
	for k, arg := range x.args {
		if !m.match(rest[k], arg, bound) {
			return false
		}
	}
	return true
}

// vector is the OBits of a number's digits.
func (m *model) vector(digits string, width int) *tree {
	n, _ := new(big.Int).SetString(digits, 10)
	n.And(n, new(big.Int).Sub(new(big.Int).Lsh(big.NewInt(1), uint(width)), big.NewInt(1)))
	return m.grow(api.Node{Op: api.OBits, Bits: api.Bits{Width: width, Val: limbsOf(n)}})
}

func (m *model) build(pattern sx, x *tree, bound map[string]*tree) *tree {
	switch atom := pattern.atom; {
	case atom == "":
		break
	case atom == "true" || atom == "false":
		return m.truth(atom == "true")
	case bound[atom] != nil:
		return bound[atom]
	case atom[0] == '#':
		return m.vector(atom[1:], m.sortOf(x).Width)
	default:
		n, _ := new(big.Int).SetString(atom, 10)
		return m.number(n)
	}
	head, rest := pattern.list[0].atom, pattern.list[1:]
	if head == "neg" {
		return m.neg(m.build(rest[0], x, bound))
	}
	var args []*tree
	for _, arg := range rest {
		args = append(args, m.build(arg, x, bound))
	}
	return m.app(opOf(head, len(args)), args...)
}

// chapter is the thirteen rules, in order.
func (m *model) chapter() []turn {
	var list []turn
	code := func(line string, make func(x *tree) *tree) { list = append(list, turn{line, make}) }
	lines := func(pairs ...string) {
		for k := 0; k < len(pairs); k += 2 {
			list = append(list, m.line(pairs[k], pairs[k+1]))
		}
	}
	code("literals", m.literals)
	lines("(not (not a))", "a")
	code("and, or", m.junction)
	lines("(xor a true)", "(neg a)", "(xor true a)", "(neg a)", "(xor a false)", "a", "(xor false a)", "a", "(xor a a)", "false", "(xor a (neg a))", "true", "(=> a b)", "(or (neg a) b)")
	lines("(ite true a b)", "a", "(ite false a b)", "b", "(ite c a a)", "a", "(ite (not c) a b)", "(ite c b a)",
		"(ite c true b)", "(or c b)", "(ite c false b)", "(and (neg c) b)", "(ite c a true)", "(or (neg c) a)", "(ite c a false)", "(and c a)")
	lines("(= a a)", "true", "(= a true)", "a", "(= true a)", "a", "(= a false)", "(neg a)", "(= false a)", "(neg a)", "(= a (neg a))", "false")
	code("= of trees", m.trees)
	code("distinct", m.distinct)
	code("sum", m.sum)
	lines("(<= a a)", "true", "(< a b)", "(neg (<= b a))", "(>= a b)", "(<= b a)", "(> a b)", "(neg (<= a b))",
		"(div a 1)", "a", "(div a -1)", "(- a)", "(mod a 1)", "0", "(mod a -1)", "0", "(abs (abs a))", "(abs a)")
	code("select", m.selection)
	lines("(select (store a i v) i)", "v", "(store (store a i w) i v)", "(store a i v)", "(store a i (select a i))", "a")
	code("store into const", m.storing)
	code("selector", m.selector)
	code("is", m.question)
	lines("(bvnot (bvnot a))", "a", "(bvneg (bvneg a))", "a",
		"(bvand a #0)", "#0", "(bvand #0 a)", "#0", "(bvand a #-1)", "a", "(bvand #-1 a)", "a", "(bvand a a)", "a",
		"(bvor a #-1)", "#-1", "(bvor #-1 a)", "#-1", "(bvor a #0)", "a", "(bvor #0 a)", "a", "(bvor a a)", "a",
		"(bvxor a #0)", "a", "(bvxor #0 a)", "a", "(bvxor a a)", "#0", "(bvadd a #0)", "a", "(bvadd #0 a)", "a", "(bvsub a #0)", "a", "(bvsub a a)", "#0",
		"(bvmul a #0)", "#0", "(bvmul #0 a)", "#0", "(bvmul a #1)", "a", "(bvmul #1 a)", "a", "(bvshl a #0)", "a", "(bvlshr a #0)", "a", "(bvashr a #0)", "a")
	code("bits with params", m.params)
	lines("(bvnand a b)", "(bvnot (bvand a b))", "(bvnor a b)", "(bvnot (bvor a b))", "(bvxnor a b)", "(bvnot (bvxor a b))")
	for _, sign := range []string{"u", "s"} {
		lt, le, gt, ge := "(bv"+sign+"lt a b)", "(bv"+sign+"le ", "(bv"+sign+"gt a b)", "(bv"+sign+"ge a b)"
		lines(gt, "(neg "+le+"a b))", ge, le+"b a)", lt, "(neg "+le+"b a))", le+"a a)", "true")
	}
	return list
}

// literals works out what layer 11 says.
func (m *model) literals(x *tree) *tree {
	op := x.node.Op
	of := op == api.ONot || op == api.OXor || op == api.OImplies || op == api.OEq || op == api.ODistinct || op >= api.OMinus && op <= api.OGt || op >= api.OConcat
	if !of || slices.ContainsFunc(x.args, func(arg *tree) bool { return !literal(arg) }) {
		return nil
	}
	vals, e := eval.Terms(m.Table, api.Interp{}, m.add(x))
	if e == api.ErrBig {
		panic(tooLong{})
	}
	switch v := vals[0]; v.Kind {
	case api.VBool:
		return m.truth(v.Bool)
	case api.VInt:
		return m.grow(api.Node{Op: api.ONum, Int: v.Int})
	default:
		return m.grow(api.Node{Op: api.OBits, Bits: v.Bits})
	}
}

func (m *model) junction(x *tree) *tree {
	op := x.node.Op
	if op != api.OAnd && op != api.OOr {
		return nil
	}
	no := m.truth(op == api.OOr)
	var list []*tree
	for _, arg := range x.args {
		if arg.node.Op == op {
			list = append(list, arg.args...)
		} else {
			list = append(list, arg)
		}
	}
	if len(list) > 64 {
		list = x.args
	}
	var left []*tree
	seen := map[string]bool{}
	for _, arg := range list {
		if !seen[arg.text] && !same(arg, m.neg(no)) {
			left = append(left, arg)
		}
		seen[arg.text] = true
	}
	y := m.app(op, left...)
	for _, arg := range left {
		if seen[m.neg(arg).text] {
			y = no
		}
	}
	switch {
	case seen[no.text] || same(y, no):
		y = no
	case len(left) == 0:
		y = m.neg(no)
	case len(left) == 1:
		y = left[0]
	}
	if same(x, y) {
		return nil
	}
	return y
}

func (m *model) trees(x *tree) *tree {
	if x.node.Op != api.OEq || x.args[0].node.Op != api.OCon || x.args[1].node.Op != api.OCon {
		return nil
	}
	a, b := x.args[0], x.args[1]
	if a.node.Name != b.node.Name {
		return m.truth(false)
	}
	var each []*tree
	for k := range a.args {
		each = append(each, m.app(api.OEq, a.args[k], b.args[k]))
	}
	switch len(each) {
	case 0:
		return m.truth(true)
	case 1:
		return each[0]
	}
	return m.app(api.OAnd, each...)
}

func (m *model) distinct(x *tree) *tree {
	if x.node.Op != api.ODistinct {
		return nil
	}
	var pairs []*tree
	for k, a := range x.args {
		for _, b := range x.args[k+1:] {
			if same(a, b) {
				return m.truth(false)
			}
			pairs = append(pairs, m.neg(m.app(api.OEq, a, b)))
		}
	}
	switch {
	case len(x.args) == 2:
		return pairs[0]
	case len(x.args) <= 11:
		return m.app(api.OAnd, pairs...)
	}
	return nil
}

// portion is a part of a sum; of a number alone the term is nil.
type portion struct {
	by   *big.Int
	term *tree
}

func portionOf(x *tree) portion {
	switch {
	case x.node.Op == api.OMul && x.args[0].node.Op == api.ONum:
		return portion{bigOf(x.args[0].node.Int), x.args[1]}
	case x.node.Op == api.ONum:
		return portion{bigOf(x.node.Int), nil}
	}
	return portion{big.NewInt(1), x}
}

// portions are the parts of a term, times a number.
func portions(x *tree, times *big.Int) []portion {
	list := []*tree{x}
	if x.node.Op == api.OAdd {
		list = x.args
	}
	var all []portion
	for _, y := range list {
		p := portionOf(y)
		all = append(all, portion{p.by.Mul(p.by, times), p.term})
	}
	return all
}

func (m *model) sum(x *tree) *tree {
	one, minus := big.NewInt(1), big.NewInt(-1)
	var all []portion
	switch x.node.Op {
	case api.OMinus:
		all = portions(x.args[0], minus)
	case api.OAdd:
		for _, arg := range x.args {
			all = append(all, portions(arg, one)...)
		}
	case api.OSub:
		all = append(portions(x.args[0], one), portions(x.args[1], minus)...)
	case api.OMul:
		if x.args[0].node.Op == api.ONum {
			all = portions(x.args[1], bigOf(x.args[0].node.Int))
		} else {
			all = portions(x.args[0], bigOf(x.args[1].node.Int))
		}
	default:
		return nil
	}
	alone := new(big.Int)
	var order []*tree
	by := map[string]*big.Int{}
	for _, p := range all {
		switch {
		case p.term == nil:
			alone.Add(alone, p.by)
		case by[p.term.text] == nil:
			order = append(order, p.term)
			by[p.term.text] = p.by
		default:
			by[p.term.text].Add(by[p.term.text], p.by)
		}
	}
	long := alone.BitLen() > 64*4096
	var list []*tree
	for _, term := range order {
		n := by[term.text]
		long = long || n.BitLen() > 64*4096
		switch {
		case n.Sign() == 0:
		case n.Cmp(one) == 0:
			list = append(list, term)
		default:
			list = append(list, m.app(api.OMul, m.number(n), term))
		}
	}
	if alone.Sign() != 0 {
		list = append(list, m.number(alone))
	}
	if long || len(list) > 64 {
		return nil
	}
	y := m.app(api.OAdd, list...)
	switch len(list) {
	case 0:
		y = m.number(alone)
	case 1:
		y = list[0]
	}
	if same(x, y) {
		return nil
	}
	return y
}

func (m *model) selection(x *tree) *tree {
	if x.node.Op != api.OSelect {
		return nil
	}
	a, i := x.args[0], x.args[1]
	switch {
	case a.node.Op == api.OConst:
		return a.args[0]
	case a.node.Op == api.OStore && literal(i) && literal(a.args[1]) && !same(i, a.args[1]):
		return m.app(api.OSelect, a.args[0], i)
	}
	return nil
}

func (m *model) storing(x *tree) *tree {
	if x.node.Op != api.OStore || x.args[0].node.Op != api.OConst || !same(x.args[0].args[0], x.args[2]) {
		return nil
	}
	return x.args[0]
}

func (m *model) selector(x *tree) *tree {
	if x.node.Op != api.OSel || x.args[0].node.Op != api.OCon {
		return nil
	}
	for _, data := range m.Sig().Datas {
		for _, c := range data.Cons {
			for k, s := range c.Sels {
				if c.Name == x.args[0].node.Name && s.Name == x.node.Name {
					return x.args[0].args[k]
				}
			}
		}
	}
	return nil
}

func (m *model) question(x *tree) *tree {
	if x.node.Op != api.OIs {
		return nil
	}
	if x.args[0].node.Op == api.OCon {
		return m.truth(x.args[0].node.Name == x.node.Name)
	}
	for _, data := range m.Sig().Datas {
		if len(data.Cons) == 1 && data.Cons[0].Name == x.node.Name {
			return m.truth(true)
		}
	}
	return nil
}

func (m *model) params(x *tree) *tree {
	p := x.node.Params
	switch x.node.Op {
	case api.OZeroExt, api.OSignExt, api.ORotL, api.ORotR:
		if p[0] == 0 {
			return x.args[0]
		}
	case api.ORepeat:
		if p[0] == 1 {
			return x.args[0]
		}
	case api.OExtract:
		arg := x.args[0]
		if p[0]-p[1]+1 == m.sortOf(arg).Width {
			return arg
		}
		if arg.node.Op == api.OExtract {
			low := arg.node.Params[1]
			return m.grow(api.Node{Op: api.OExtract, Params: []int{p[0] + low, p[1] + low}}, arg.args[0])
		}
	}
	return nil
}

// fewOperators is what P12.2 turns, where the arguments are simple already.
func (m *model) fewOperators() []turn {
	var list []turn
	for _, pair := range [][2]string{
		{"(xor a b)", "(not (= a b))"}, {"(=> a b)", "(not (and (not (not a)) (not b)))"},
		{"(< a b)", "(not (<= b a))"}, {"(>= a b)", "(<= b a)"}, {"(> a b)", "(not (<= a b))"}, {"(- a b)", "(+ a (* -1 b))"},
		{"(bvnand a b)", "(bvnot (bvand a b))"}, {"(bvnor a b)", "(bvnot (bvor a b))"}, {"(bvxnor a b)", "(bvnot (bvxor a b))"}, {"(bvsub a b)", "(bvadd a (bvneg b))"},
		{"(bvult a b)", "(not (bvule b a))"}, {"(bvuge a b)", "(bvule b a)"}, {"(bvugt a b)", "(not (bvule a b))"},
		{"(bvslt a b)", "(not (bvsle b a))"}, {"(bvsge a b)", "(bvsle b a)"}, {"(bvsgt a b)", "(not (bvsle a b))"},
	} {
		list = append(list, m.line(pair[0], pair[1]))
	}
	return append(list, turn{"(- a)", m.minus}, turn{"or", m.or}, turn{"distinct", m.apart})
}

func (m *model) minus(x *tree) *tree {
	switch {
	case x.node.Op != api.OMinus:
		return nil
	case x.args[0].node.Op == api.ONum:
		n := bigOf(x.args[0].node.Int)
		return m.number(n.Neg(n))
	}
	return m.app(api.OMul, m.number(big.NewInt(-1)), x.args[0])
}

func (m *model) or(x *tree) *tree {
	if x.node.Op != api.OOr {
		return nil
	}
	var nots []*tree
	for _, arg := range x.args {
		nots = append(nots, m.app(api.ONot, arg))
	}
	return m.app(api.ONot, m.app(api.OAnd, nots...))
}

func (m *model) apart(x *tree) *tree {
	if x.node.Op != api.ODistinct {
		return nil
	}
	var list []*tree
	for k, a := range x.args {
		for _, b := range x.args[k+1:] {
			list = append(list, m.app(api.ONot, m.app(api.OEq, a, b)))
		}
	}
	for len(list) > 64 {
		var fewer []*tree
		for len(list) > 0 {
			n := min(64, len(list))
			fewer = append(fewer, m.app(api.OAnd, list[:n]...))
			list = list[n:]
		}
		list = fewer
	}
	if len(list) == 1 {
		return list[0]
	}
	return m.app(api.OAnd, list...)
}
