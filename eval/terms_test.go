package eval_test

import (
	"math"
	"math/big"
	"testing"

	"tribunal/api"
)

// These are the tests of the chapter's table of meanings.

func TestExamples(t *testing.T) {
	g := some()
	b := tableOf(t, g)
	in := funs(funval("x", num(3)), funval("f", num(0), kase(num(5), num(3))))
	x := call(t, b, "x")
	fx := call(t, b, "f", x)
	two := numeral(t, b, big.NewInt(2))
	minus := app(t, b, api.OMinus, x)
	is(t, b, in, fx, num(5))
	is(t, b, in, call(t, b, "f", fx), num(0))
	is(t, b, in, app(t, b, api.ODiv, minus, two), num(-2))
	is(t, b, in, app(t, b, api.OMod, minus, two), num(1))

	head := named(t, b, api.OSel, "head", termOf(t, b, list()))
	is(t, b, in, head, num(0))
	in.Funs = append(in.Funs, funval("head", num(7)))
	is(t, b, in, head, num(7))
	is(t, b, in, named(t, b, api.OSel, "head", termOf(t, b, list(1))), num(1))

	a := call(t, b, "a")
	one := numeral(t, b, big.NewInt(1))
	in.Funs = append(in.Funs, funval("a", arr(array(integer, integer), num(2))))
	is(t, b, in, app(t, b, api.OEq, app(t, b, api.OStore, a, one, two), a), yes(true))
	is(t, b, in, app(t, b, api.OBvUdiv, termOf(t, b, bin("01")), termOf(t, b, bin("00"))), bin("11"))
	in.Funs = append(in.Funs, funval("u", elem("U", 0)), funval("v", elem("U", 1)))
	is(t, b, in, app(t, b, api.ODistinct, call(t, b, "u"), call(t, b, "v")), yes(true))

	fails(t, b, funs(funval("unknown", num(1))), api.ErrInterp, x)
	holdsNot(t, b, in, api.ErrSorts, x)
	holds(t, b, in, true)
}

func TestBools(t *testing.T) {
	b := tableOf(t, some())
	p, q := call(t, b, "p"), call(t, b, "q")
	is(t, b, funs(), app(t, b, api.OTrue), yes(true))
	is(t, b, funs(), app(t, b, api.OFalse), yes(false))
	for _, x := range []bool{false, true} {
		for _, y := range []bool{false, true} {
			in := funs(funval("q", yes(y)), funval("p", yes(x)))
			is(t, b, in, p, yes(x))
			is(t, b, in, app(t, b, api.ONot, p), yes(!x))
			is(t, b, in, app(t, b, api.OAnd, p, q), yes(x && y))
			is(t, b, in, app(t, b, api.OOr, p, q), yes(x || y))
			is(t, b, in, app(t, b, api.OXor, p, q), yes(x != y))
			is(t, b, in, app(t, b, api.OImplies, p, q), yes(!x || y))
			is(t, b, in, app(t, b, api.OImplies, q, p), yes(!y || x))
			is(t, b, in, app(t, b, api.OEq, p, q), yes(x == y))
			is(t, b, in, app(t, b, api.ODistinct, p, q), yes(x != y))
			is(t, b, in, app(t, b, api.OIte, p, q, app(t, b, api.ONot, q)), yes(x == y))
			is(t, b, in, app(t, b, api.ODistinct, p, q, p), yes(false))
		}
	}
}

// Conjunctions and disjunctions of up to 64, of which one is unlike the others, at each place.
func TestManyBools(t *testing.T) {
	b := tableOf(t, some())
	p, q := call(t, b, "p"), call(t, b, "q")
	in := funs(funval("p", yes(true)))
	for _, many := range []int{2, 3, 7, 63, 64} {
		for at := range many {
			args, others := make([]int, many), make([]int, many)
			for i := range args {
				args[i], others[i] = p, q
			}
			args[at], others[at] = q, p
			is(t, b, in, app(t, b, api.OAnd, args...), yes(false))
			is(t, b, in, app(t, b, api.OOr, args...), yes(true))
			is(t, b, in, app(t, b, api.OAnd, others...), yes(false))
			is(t, b, in, app(t, b, api.OOr, others...), yes(true))
			args[at], others[at] = p, q
			is(t, b, in, app(t, b, api.OAnd, args...), yes(true))
			is(t, b, in, app(t, b, api.OOr, others...), yes(false))
		}
	}
}

// Of each sort two values, and one of them in another form: OEq, ODistinct of two and of more, OIte.
func TestSameness(t *testing.T) {
	g := some()
	bools := array(boolean, boolean)
	for _, c := range []struct {
		s          api.Sort
		a, same, b api.Value
	}{
		{boolean, yes(true), yes(true), yes(false)},
		{integer, num(0), api.Value{Kind: api.VInt, Int: api.Int{Neg: true, Mag: api.Nat{0, 0}}}, num(1)},
		{integer, num(-5), api.Value{Kind: api.VInt, Int: api.Int{Neg: true, Mag: api.Nat{5, 0}}}, num(5)},
		{integer, great(pow(64)), api.Value{Kind: api.VInt, Int: api.Int{Mag: api.Nat{0, 1, 0}}}, great(pow(65))},
		{wide(3), vec(3, 5), vec(3, 5, 0, 0), vec(3, 4)},
		{wide(65), vec(65, 0, 1), vec(65, 0, 1, 0), vec(65, 1)},
		{user("U"), elem("U", 7), elem("U", 7), elem("U", 6)},
		{user("Bool"), elem("Bool", math.MaxInt), elem("Bool", math.MaxInt), elem("Bool", math.MaxInt-1)},
		{data("Color"), tree("red"), tree("red"), tree("blue")},
		{data("List"), list(1, 2), tree("cons", num(1), tree("cons", api.Value{Kind: api.VInt, Int: api.Int{Mag: api.Nat{2, 0}}}, tree("nil"))), list(1, 3)},
		{data("List"), list(1), list(1), list(1, 1)},
		{data("Pair"), tree("pair", tree("red"), yes(true)), tree("pair", tree("red"), yes(true)), tree("pair", tree("red"), yes(false))},
		{bools, arr(bools, yes(true)), arr(bools, yes(false), row(yes(true), yes(true)), row(yes(false), yes(true))), arr(bools, yes(true), row(yes(false), yes(false)))},
		{bools, arr(bools, yes(true), row(yes(true), yes(false))), arr(bools, yes(false), row(yes(false), yes(true))), arr(bools, yes(false), row(yes(true), yes(true)))},
		{array(integer, integer), arr(array(integer, integer), num(1), row(num(2), num(3)), row(num(4), num(1))), arr(array(integer, integer), num(1), row(num(2), num(5)), row(num(2), num(3))), arr(array(integer, integer), num(3), row(num(2), num(1)))},
		{array(integer, bools), arr(array(integer, bools), arr(bools, yes(true))), arr(array(integer, bools), arr(bools, yes(false), row(yes(true), yes(true)), row(yes(false), yes(true)))), arr(array(integer, bools), arr(bools, yes(false)))},
		{data("Shape"), tree("box", arr(array(boolean, integer), num(0)), tree("dot")), tree("box", arr(array(boolean, integer), num(1), row(yes(true), num(0)), row(yes(false), num(0))), tree("dot")), tree("box", arr(array(boolean, integer), num(1)), tree("dot"))},
	} {
		g := g
		g.Funs = []api.Fun{fun("a", c.s), fun("same", c.s), fun("b", c.s), fun("p", boolean)}
		b := tableOf(t, g)
		in := funs(funval("b", c.b), funval("same", c.same), funval("a", c.a))
		x, same, y, p := call(t, b, "a"), call(t, b, "same"), call(t, b, "b"), call(t, b, "p")
		is(t, b, in, app(t, b, api.OEq, x, x), yes(true))
		is(t, b, in, app(t, b, api.OEq, x, same), yes(true))
		is(t, b, in, app(t, b, api.OEq, same, x), yes(true))
		is(t, b, in, app(t, b, api.OEq, x, y), yes(false))
		is(t, b, in, app(t, b, api.OEq, y, same), yes(false))
		is(t, b, in, app(t, b, api.ODistinct, x, x), yes(false))
		is(t, b, in, app(t, b, api.ODistinct, x, same), yes(false))
		is(t, b, in, app(t, b, api.ODistinct, x, y), yes(true))
		is(t, b, in, app(t, b, api.ODistinct, x, y, same), yes(false))
		is(t, b, in, app(t, b, api.ODistinct, same, x, y), yes(false))
		is(t, b, in, app(t, b, api.ODistinct, y, same, x), yes(false))
		is(t, b, in, app(t, b, api.ODistinct, y, y, x), yes(false))
		ite := app(t, b, api.OIte, p, same, y)
		is(t, b, in, app(t, b, api.OEq, ite, y), yes(true))
		is(t, b, in, app(t, b, api.OEq, ite, x), yes(false))
		in.Funs = append(in.Funs, funval("p", yes(true)))
		is(t, b, in, app(t, b, api.OEq, ite, y), yes(false))
		is(t, b, in, app(t, b, api.OEq, ite, x), yes(true))
		holds(t, b, in, true, app(t, b, api.OEq, ite, same), app(t, b, api.ODistinct, ite, y))
	}
}

// ODistinct of 3 to 64: of unlike ones; and with one that stands twice, at each place.
func TestManyDistinct(t *testing.T) {
	b := tableOf(t, some())
	d := &dice{5}
	for _, many := range []int{3, 4, 5, 17, 63, 64} {
		var args []int
		for _, n := range mixed(d, []int64{9, -8, 7, -6, 5, -4, 3, -2, 1}) {
			for k := range int64(8) {
				args = append(args, numeral(t, b, big.NewInt(n*100+k)))
			}
		}
		args = mixed(d, args)[:many]
		is(t, b, funs(), app(t, b, api.ODistinct, args...), yes(true))
		for range 40 {
			i, j := d.below(many), d.below(many)
			with := append([]int{}, args...)
			with[i] = with[j]
			is(t, b, funs(), app(t, b, api.ODistinct, with...), yes(i == j))
		}
	}
}

func TestNumbers(t *testing.T) {
	b := tableOf(t, some())
	x, y := call(t, b, "x"), call(t, b, "y")
	numbers := []*big.Int{big.NewInt(0), big.NewInt(1), big.NewInt(-1), big.NewInt(2), big.NewInt(-7), big.NewInt(7), big.NewInt(math.MaxInt64), big.NewInt(math.MinInt64), pow(64), new(big.Int).Neg(pow(64)), new(big.Int).Sub(pow(200), big.NewInt(3))}
	for _, n := range numbers {
		is(t, b, funs(), numeral(t, b, n), great(n))
		for _, k := range numbers {
			in := funs(funval("x", great(n)), funval("y", great(k)))
			z := new(big.Int)
			is(t, b, in, app(t, b, api.OMinus, x), great(z.Neg(n)))
			is(t, b, in, app(t, b, api.OAbs, x), great(z.Abs(n)))
			is(t, b, in, app(t, b, api.OAdd, x, y), great(z.Add(n, k)))
			is(t, b, in, app(t, b, api.OAdd, x, y, y), great(z.Add(z.Add(n, k), k)))
			is(t, b, in, app(t, b, api.OSub, x, y), great(z.Sub(n, k)))
			by := numeral(t, b, k)
			is(t, b, in, app(t, b, api.OMul, x, by), great(z.Mul(n, k)))
			is(t, b, in, app(t, b, api.OMul, by, x), great(z.Mul(n, k)))
			if k.Sign() != 0 {
				is(t, b, in, app(t, b, api.ODiv, x, by), great(z.Div(n, k)))
				is(t, b, in, app(t, b, api.OMod, x, by), great(z.Mod(n, k)))
				by = app(t, b, api.OMinus, by)
				is(t, b, in, app(t, b, api.ODiv, x, by), great(z.Div(n, new(big.Int).Neg(k))))
				is(t, b, in, app(t, b, api.OMod, x, by), great(z.Mod(n, k)))
			}
			is(t, b, in, app(t, b, api.OLe, x, y), yes(n.Cmp(k) <= 0))
			is(t, b, in, app(t, b, api.OLt, x, y), yes(n.Cmp(k) < 0))
			is(t, b, in, app(t, b, api.OGe, x, y), yes(n.Cmp(k) >= 0))
			is(t, b, in, app(t, b, api.OGt, x, y), yes(n.Cmp(k) > 0))
			is(t, b, in, app(t, b, api.OEq, x, y), yes(n.Cmp(k) == 0))
		}
	}
}

func TestBits(t *testing.T) {
	g := some()
	b := tableOf(t, g)
	two := []api.Op{api.OConcat, api.OBvAnd, api.OBvOr, api.OBvXor, api.OBvNand, api.OBvNor, api.OBvXnor, api.OBvComp, api.OBvAdd, api.OBvSub, api.OBvMul, api.OBvUdiv, api.OBvUrem, api.OBvSdiv, api.OBvSrem, api.OBvSmod, api.OBvShl, api.OBvLshr, api.OBvAshr,
		api.OBvUlt, api.OBvUle, api.OBvUgt, api.OBvUge, api.OBvSlt, api.OBvSle, api.OBvSgt, api.OBvSge}
	x, y := call(t, b, "b3"), call(t, b, "d3")
	for i := range 8 {
		for j := range 8 {
			in := funs(funval("b3", vec(3, uint64(i), 0)), funval("d3", vec(3, uint64(j))))
			m := newModel(b, g, in)
			for _, op := range two {
				n := app(t, b, op, x, y)
				is(t, b, in, n, m.norm(n))
				n = app(t, b, op, x, x)
				is(t, b, in, n, m.norm(n))
			}
			for _, n := range []api.Node{
				{Op: api.OBvNot}, {Op: api.OBvNeg}, {Op: api.OExtract, Params: []int{2, 0}}, {Op: api.OExtract, Params: []int{2, 1}}, {Op: api.OExtract, Params: []int{0, 0}}, {Op: api.ORepeat, Params: []int{1}}, {Op: api.ORepeat, Params: []int{3}},
				{Op: api.OZeroExt, Params: []int{0}}, {Op: api.OZeroExt, Params: []int{2}}, {Op: api.OSignExt, Params: []int{0}}, {Op: api.OSignExt, Params: []int{70}}, {Op: api.ORotL, Params: []int{1}}, {Op: api.ORotL, Params: []int{4}}, {Op: api.ORotR, Params: []int{1}}, {Op: api.ORotR, Params: []int{5}},
			} {
				n.Args = []int{x}
				k := put(t, b, n)
				is(t, b, in, k, m.norm(k))
			}
		}
	}
	is(t, b, funs(), put(t, b, api.Node{Op: api.OBits, Bits: api.Bits{Width: 65, Val: api.Nat{1, 1, 0}}}), vec(65, 1, 1))
	for _, c := range []struct {
		op         api.Op
		a, b, want string
	}{
		{api.OBvAdd, "0111", "1100", "0011"}, {api.OBvUdiv, "0111", "0000", "1111"}, {api.OBvUrem, "0111", "0000", "0111"}, {api.OBvSdiv, "0111", "0000", "1111"}, {api.OBvSdiv, "1001", "0000", "0001"},
		{api.OBvSrem, "1001", "0000", "1001"}, {api.OBvSmod, "1001", "0000", "1001"}, {api.OBvSdiv, "1001", "0010", "1101"}, {api.OBvSrem, "1001", "0010", "1111"}, {api.OBvSmod, "1001", "0010", "0001"},
		{api.OBvAshr, "1100", "0001", "1110"}, {api.OBvLshr, "1100", "0001", "0110"}, {api.OBvShl, "0001", "0101", "0000"}, {api.OConcat, "10", "011", "10011"}, {api.OBvComp, "101", "101", "1"}, {api.OBvComp, "101", "100", "0"},
		{api.OBvNand, "1100", "1010", "0111"}, {api.OBvNor, "1100", "1010", "0001"}, {api.OBvXnor, "1100", "1010", "1001"},
	} {
		is(t, b, funs(), app(t, b, c.op, termOf(t, b, bin(c.a)), termOf(t, b, bin(c.b))), bin(c.want))
	}
	for _, c := range []struct {
		op   api.Op
		want bool
	}{{api.OBvUlt, false}, {api.OBvUle, false}, {api.OBvUgt, true}, {api.OBvUge, true}, {api.OBvSlt, true}, {api.OBvSle, true}, {api.OBvSgt, false}, {api.OBvSge, false}} {
		is(t, b, funs(), app(t, b, c.op, termOf(t, b, bin("1000")), termOf(t, b, bin("0111"))), yes(c.want))
	}
}

func TestTrees(t *testing.T) {
	g := some()
	b := tableOf(t, g)
	l, s, x, c := call(t, b, "l"), call(t, b, "s"), call(t, b, "x"), call(t, b, "c")
	box := tree("box", arr(array(boolean, integer), num(4), row(yes(true), num(5))), tree("dot"))
	round := tree("round", num(-9), tree("blue"))
	in := funs(funval("l", list(1, 2)), funval("s", box), funval("x", num(8)), funval("c", tree("light green")),
		funval("radius", num(1), kase(num(2), tree("dot")), kase(num(3), box), kase(num(4), round)), funval("hue", tree("blue")), funval("tail", list(5)))
	is(t, b, in, l, list(1, 2))
	is(t, b, in, named(t, b, api.OCon, "cons", x, l), list(8, 1, 2))
	is(t, b, in, named(t, b, api.OCon, "nil"), list())
	is(t, b, in, named(t, b, api.OCon, "round", x, c), tree("round", num(8), tree("light green")))
	is(t, b, in, named(t, b, api.OSel, "head", l), num(1))
	is(t, b, in, named(t, b, api.OSel, "tail", l), list(2))
	last := named(t, b, api.OSel, "tail", named(t, b, api.OSel, "tail", l))
	is(t, b, in, last, list())
	is(t, b, in, named(t, b, api.OSel, "tail", last), list(5))
	is(t, b, in, named(t, b, api.OSel, "head", last), num(0))
	for _, k := range []struct {
		s                   api.Value
		radius, hue, inside api.Value
		con                 string
	}{
		{box, num(3), tree("blue"), tree("dot"), "box"},
		{tree("dot"), num(2), tree("blue"), tree("dot"), "dot"},
		{round, num(-9), tree("blue"), tree("dot"), "round"},
		{tree("round", num(0), tree("red")), num(0), tree("red"), tree("dot"), "round"},
		{tree("box", arr(array(boolean, integer), num(5), row(yes(false), num(4))), tree("dot")), num(3), tree("blue"), tree("dot"), "box"},
		{tree("box", arr(array(boolean, integer), num(5)), round), num(1), tree("blue"), round, "box"},
	} {
		in.Funs[1].Else = k.s
		is(t, b, in, named(t, b, api.OSel, "radius", s), k.radius)
		is(t, b, in, named(t, b, api.OSel, "hue", s), k.hue)
		is(t, b, in, named(t, b, api.OSel, "inside", s), k.inside)
		for _, con := range []string{"dot", "round", "box"} {
			is(t, b, in, named(t, b, api.OIs, con, s), yes(con == k.con))
		}
	}
	is(t, b, in, named(t, b, api.OSel, "lid", termOf(t, b, tree("dot"))), arr(array(boolean, integer), num(0)))
	is(t, b, in, named(t, b, api.OIs, "unit", call(t, b, "unit of")), yes(true))
}

func TestArrays(t *testing.T) {
	g := some()
	b := tableOf(t, g)
	s, bools := array(integer, integer), array(boolean, integer)
	a, x := call(t, b, "a"), call(t, b, "x")
	in := funs(funval("a", arr(s, num(0), row(num(3), num(1)), row(num(1), num(0)), row(num(3), num(4)))), funval("x", num(2)))
	is(t, b, in, a, arr(s, num(0), row(num(3), num(4))))
	for key, want := range map[int64]int64{3: 4, 1: 0, 0: 0, -3: 0} {
		is(t, b, in, app(t, b, api.OSelect, a, numeral(t, b, big.NewInt(key))), num(want))
	}
	is(t, b, in, app(t, b, api.OStore, a, x, x), arr(s, num(0), row(num(2), num(2)), row(num(3), num(4))))
	three, zero := numeral(t, b, big.NewInt(3)), numeral(t, b, big.NewInt(0))
	is(t, b, in, app(t, b, api.OStore, a, three, x), arr(s, num(0), row(num(3), num(2))))
	is(t, b, in, app(t, b, api.OStore, a, three, zero), arr(s, num(0)))
	is(t, b, in, app(t, b, api.OStore, a, x, zero), arr(s, num(0), row(num(3), num(4))))
	is(t, b, in, a, arr(s, num(0), row(num(3), num(4))))

	everywhere := put(t, b, api.Node{Op: api.OConst, Sort: bools, Args: []int{x}})
	is(t, b, in, everywhere, arr(bools, num(2)))
	one := app(t, b, api.OStore, everywhere, termOf(t, b, yes(true)), three)
	is(t, b, in, one, arr(bools, num(2), row(yes(true), num(3))))
	less := app(t, b, api.OStore, everywhere, termOf(t, b, yes(true)), zero)
	is(t, b, in, less, arr(bools, num(0), row(yes(false), num(2))))
	is(t, b, in, app(t, b, api.OStore, one, termOf(t, b, yes(false)), three), arr(bools, num(3)))
	is(t, b, in, app(t, b, api.OSelect, less, termOf(t, b, yes(false))), num(2))

	unit := put(t, b, api.Node{Op: api.OConst, Sort: array(data("Unit"), integer), Args: []int{x}})
	is(t, b, in, app(t, b, api.OStore, unit, termOf(t, b, tree("unit")), three), arr(array(data("Unit"), integer), num(3)))
	still := put(t, b, api.Node{Op: api.OConst, Sort: array(integer, data("Unit")), Args: []int{termOf(t, b, tree("unit"))}})
	is(t, b, in, app(t, b, api.OStore, still, x, termOf(t, b, tree("unit"))), arr(array(integer, data("Unit")), tree("unit")))
}

// Stores over finite sorts of all sizes, one behind the other, at any keys, of few values: so that Else changes places with rows at all numbers of them.
func TestStoresInTurn(t *testing.T) {
	g := some()
	d := &dice{7}
	for _, from := range []api.Sort{boolean, wide(1), wide(2), wide(3), wide(4), wide(6), data("Color"), data("Pair"), data("Unit"), array(boolean, boolean), integer, user("U"), wide(17)} {
		for range 12 {
			s := array(from, integer)
			h := g
			h.Funs = []api.Fun{fun("a", s), fun("keys", from, integer)}
			b := tableOf(t, h)
			in := funs(funval("a", arr(s, num(1))), funval("keys", d.value(g, from, 2)))
			for i := range 40 {
				in.Funs[1].Cases = append(in.Funs[1].Cases, kase(d.value(g, from, 2), num(int64(i))))
			}
			m := newModel(b, h, in)
			a := call(t, b, "a")
			most := 1 + d.below(6)
			for range 60 {
				key := call(t, b, "keys", numeral(t, b, big.NewInt(int64(d.below(42)))))
				a = app(t, b, api.OStore, a, key, numeral(t, b, big.NewInt(int64(d.below(most)))))
				if d.below(4) == 0 {
					is(t, b, in, a, m.norm(a))
				}
			}
			is(t, b, in, a, m.norm(a))
		}
	}
}

// A chain that ends with the same value at all keys but some, over 64 and over 4096 keys: Else turns late. The others stand ahead of it in the order, or behind it.
func TestElseTurnsLate(t *testing.T) {
	for _, w := range []int{6, 12} {
		for _, rare := range []int64{-10000, 1000} {
			chain(t, w, rare)
		}
	}
}

// chain is of stores of 2, but at each eighth key of the rare number and on.
func chain(t *testing.T, w int, rare int64) {
	t.Helper()
	s := array(wide(w), integer)
	b := tableOf(t, api.Sig{})
	many := int64(1) << w
	a := put(t, b, api.Node{Op: api.OConst, Sort: s, Args: []int{numeral(t, b, big.NewInt(1))}})
	vals := make([]int64, many)
	for i := range vals {
		vals[i] = 1
	}
	for i := range many {
		vals[i] = 2
		if i%8 == 0 {
			vals[i] = rare + i
		}
		a = app(t, b, api.OStore, a, termOf(t, b, key(w, i)), numeral(t, b, big.NewInt(vals[i])))
		if w == 12 && i%400 != 0 && i < many-2 {
			continue
		}
		other := int64(1)
		if twos := i + 1 - (i/8 + 1); twos > many-i-1 {
			other = 2
		}
		want := arr(s, num(other))
		for j, val := range vals {
			if val != other {
				want.Rows = append(want.Rows, row(key(w, int64(j)), num(val)))
			}
		}
		is(t, b, funs(), a, want)
	}
}

// An array that is handed in with most keys in rows, and in which Else turns with the next store, or the one behind it.
func TestElseTurnsSoon(t *testing.T) {
	s := array(wide(6), integer)
	g := api.Sig{Funs: []api.Fun{fun("a", s)}}
	b := tableOf(t, g)
	for _, rare := range []int64{-100, 100} {
		v := arr(s, num(0))
		for i := range int64(8) {
			v.Rows = append(v.Rows, row(key(6, i), num(rare+i)))
		}
		for i := range int64(27) {
			v.Rows = append(v.Rows, row(key(6, 8+i), num(9)))
		}
		in := funs(funval("a", v))
		m := newModel(b, g, in)
		a := call(t, b, "a")
		for i := range int64(29) {
			a = app(t, b, api.OStore, a, termOf(t, b, key(6, 35+i)), numeral(t, b, big.NewInt(9+i%7/6)))
			is(t, b, in, a, m.norm(a))
		}
	}
}

// Keys that are arrays, and trees with arrays in them: they stand in the order of values, by Else ahead of Rows, by keys ahead of what is there.
func TestArraysAsKeys(t *testing.T) {
	g := some()
	bools, shapes := array(integer, boolean), array(boolean, integer)
	var keys, trees []api.Value
	for _, other := range []bool{false, true} {
		for _, rows := range [][]api.Row{nil, {row(num(1), yes(!other))}, {row(num(2), yes(!other))}, {row(num(1), yes(!other)), row(num(2), yes(!other))}, {row(num(-5), yes(!other)), row(num(9), yes(!other))}} {
			keys = append(keys, arr(bools, yes(other), rows...))
		}
	}
	for _, n := range []int64{0, 5, -5} {
		lids := []api.Value{arr(shapes, num(n)), arr(shapes, num(n), row(yes(true), num(n+1))), arr(shapes, num(n), row(yes(true), num(n+2))), arr(shapes, num(n+3), row(yes(true), num(n)))}
		for _, lid := range lids {
			trees = append(trees, tree("box", lid, tree("dot")), tree("box", lid, tree("round", num(n), tree("red"))))
		}
	}
	d := &dice{8}
	for _, c := range []struct {
		keys []api.Value
		to   api.Sort
	}{{keys, integer}, {trees, integer}, {keys, bools}} {
		from := bools
		if c.keys[0].Kind == api.VTree {
			from = data("Shape")
		}
		h := g
		h.Funs = []api.Fun{fun("a", array(from, c.to)), fun("val", c.to, integer)}
		for range 10 {
			b := tableOf(t, h)
			in := funs(funval("val", d.value(g, c.to, 2)))
			for i := range 9 {
				in.Funs[0].Cases = append(in.Funs[0].Cases, kase(d.value(g, c.to, 2), num(int64(i))))
			}
			m := newModel(b, h, in)
			a := call(t, b, "a")
			var all []int
			for range 2 {
				for _, k := range mixed(d, c.keys) {
					k := termOf(t, b, k)
					all = append(all, k)
					a = app(t, b, api.OStore, a, k, call(t, b, "val", numeral(t, b, big.NewInt(int64(d.below(12))))))
					is(t, b, in, a, m.norm(a))
					n := app(t, b, api.OSelect, a, pick(d, all))
					is(t, b, in, n, m.norm(n))
				}
			}
		}
	}
}

// Functions: the first Case that fits, whatever form its Args have; Else; and the first value of the sort, where no FunVal stands.
func TestFunctions(t *testing.T) {
	g := some()
	b := tableOf(t, g)
	odd := func(n uint64) api.Value { return api.Value{Kind: api.VInt, Int: api.Int{Mag: api.Nat{n, 0, 0}}} }
	at := func(n int64) int { return call(t, b, "f", numeral(t, b, big.NewInt(n))) }
	in := funs(funval("f", odd(9), kase(num(10), num(1)), kase(odd(20), odd(2)), kase(num(11), odd(1)), kase(num(21), num(2)), kase(num(30), api.Value{Kind: api.VInt, Int: api.Int{Neg: true}}), kase(num(31), num(0))))
	for n, want := range map[int64]int64{1: 10, 2: 20, 0: 30, 3: 9, -1: 9, 1 << 40: 9} {
		is(t, b, in, at(n), num(want))
	}
	is(t, b, funs(), at(1), num(0))
	is(t, b, funs(funval("f", num(4))), at(1), num(4))

	x := call(t, b, "x")
	is(t, b, funs(funval("x", num(4))), x, num(4))
	is(t, b, funs(funval("x", num(4), kase(num(5)), kase(num(6)))), x, num(5))
	is(t, b, funs(), x, num(0))

	bools := array(boolean, integer)
	color := func(c string, a api.Value) api.Value { return tree("pair", tree(c), yes(a.Else[0].Int.Mag == nil)) }
	a0, a0again, a1 := arr(bools, num(0)), arr(bools, num(7), row(yes(true), num(0)), row(yes(false), num(0))), arr(bools, num(0), row(yes(true), num(1)))
	in = funs(funval("g", color("blue", a1), kase(color("red", a0), tree("red"), a0again), kase(color("blue", a0), tree("red"), a0), kase(color("light green", a0), tree("red"), a1)), funval("c", tree("red")))
	c := call(t, b, "c")
	for _, k := range []struct {
		a    api.Value
		want string
	}{{a0, "red"}, {a0again, "red"}, {a1, "light green"}, {arr(bools, num(1), row(yes(false), num(0))), "light green"}, {arr(bools, num(1)), "blue"}} {
		is(t, b, in, call(t, b, "g", c, termOf(t, b, k.a)), color(k.want, a0))
		is(t, b, in, call(t, b, "g", termOf(t, b, tree("blue")), termOf(t, b, k.a)), color("blue", a1))
	}

	for _, f := range g.Funs {
		if len(f.Args) == 0 {
			is(t, b, funs(), call(t, b, f.Name), newModel(b, g, funs()).norm(call(t, b, f.Name)))
		}
	}
	is(t, b, funs(), call(t, b, "af"), arr(array(user("Bool"), user("U")), elem("U", 0)))
	is(t, b, funs(), call(t, b, "pr"), tree("pair", tree("red"), yes(false)))
	is(t, b, funs(), call(t, b, "s"), tree("dot"))

	in = funs(funval("u", elem("U", math.MaxInt)), funval("fake", elem("Bool", 1<<40)), funval("is so", yes(true), kase(yes(false), elem("U", math.MaxInt), elem("Bool", 1<<40))))
	is(t, b, in, call(t, b, "u"), elem("U", math.MaxInt))
	is(t, b, in, call(t, b, "is so", call(t, b, "u"), call(t, b, "fake")), yes(false))
	is(t, b, in, call(t, b, "is so", call(t, b, "v"), call(t, b, "fake")), yes(true))
}

// Args are told apart one by one: what stands at another place is another one.
func TestOrderOfArgs(t *testing.T) {
	g := api.Sig{Funs: []api.Fun{fun("f", integer, integer, integer, integer)}}
	b := tableOf(t, g)
	f := funval("f", num(-1))
	for i := range int64(27) {
		f.Cases = append(f.Cases, kase(num(i), num(i/9), num(i/3%3), num(i%3)))
	}
	f.Cases = mixed(&dice{3}, f.Cases)
	for i := range int64(27) {
		args := []int{numeral(t, b, big.NewInt(i/9)), numeral(t, b, big.NewInt(i/3%3)), numeral(t, b, big.NewInt(i%3))}
		is(t, b, funs(f), call(t, b, "f", args...), num(i))
		args[i%3] = numeral(t, b, big.NewInt(3))
		is(t, b, funs(f), call(t, b, "f", args...), num(-1))
	}
}

// A term that stands at more places than can be counted is worked out once.
func TestShared(t *testing.T) {
	b := tableOf(t, some())
	x := call(t, b, "x")
	for range 1000 {
		x = app(t, b, api.OSub, app(t, b, api.OAdd, x, x), x)
	}
	is(t, b, funs(funval("x", num(77))), x, num(77))
	p := call(t, b, "p")
	for range 5000 {
		p = app(t, b, api.OXor, p, p)
		p = app(t, b, api.ONot, p)
	}
	is(t, b, funs(), p, yes(true))
}
