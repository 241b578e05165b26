package term_test

import (
	"testing"

	"tribunal/api"
	"tribunal/whole"
)

// P5.2, P5.6: the chapter's examples.
func TestExamples(t *testing.T) {
	b := tableOf(t, api.Sig{Funs: []api.Fun{fun("x", integer), fun("p", boolean), fun("f", integer, integer)}})
	isPlace := func(got, want int) {
		t.Helper()
		if got != want {
			t.Errorf("%d; want %d", got, want)
		}
	}
	isPlace(constant(t, b, "x"), 0)
	isPlace(number(t, b, 3), 1)
	isPlace(app(t, b, api.OAdd, 0, 1), 2)
	isPlace(app(t, b, api.OAdd, 0, 1), 2)
	isPlace(app(t, b, api.OAdd, 1, 0), 3)
	isTerm(t, b, 2, integer, "(+ x 3)")
	refuses(t, b, api.Node{Op: api.OMul, Args: []int{0, 0}}, api.ErrLinear)
	isPlace(app(t, b, api.OMul, 0, 1), 4)
	refuses(t, b, api.Node{Op: api.ODiv, Args: []int{0, 0}}, api.ErrLinear)
	refuses(t, b, api.Node{Op: api.OAdd, Args: []int{0}}, api.ErrArgs)
	refuses(t, b, api.Node{Op: api.OAdd, Args: []int{0, 9}}, api.ErrArg)
	refuses(t, b, api.Node{Op: api.ONot, Args: []int{0}}, api.ErrSorts)
	refuses(t, b, api.Node{Op: api.OFun, Name: "y"}, api.ErrSymbol)
	refuses(t, b, api.Node{Op: 99}, api.ErrOp)
	refuses(t, b, api.Node{Op: api.OBits, Bits: api.Bits{Width: 2, Val: api.Nat{4}}}, api.ErrWidth)
	isTerm(t, b, vector(t, b, 2, 2), wide(2), "#b10")
	isTerm(t, b, number(t, b, -5), integer, "(- 5)")
	isTerm(t, b, named(t, b, api.OFun, "f", 2), integer, "(f (+ x 3))")
}

// P5.1 to P5.6: the Ops of Bools, of any sort, and of what is declared.
func TestCoreOps(t *testing.T) {
	b := tableOf(t, some())
	p, q, x, y := constant(t, b, "p"), constant(t, b, "q"), constant(t, b, "x"), constant(t, b, "y")
	u, a, l, c := constant(t, b, "u"), constant(t, b, "a"), constant(t, b, "l"), constant(t, b, "c")
	isTerm(t, b, p, boolean, "p")
	isTerm(t, b, u, user("U"), "u")
	isTerm(t, b, constant(t, b, "m"), user("my sort"), "m")
	isTerm(t, b, app(t, b, api.OTrue), boolean, "true")
	isTerm(t, b, app(t, b, api.OFalse), boolean, "false")
	isTerm(t, b, app(t, b, api.ONot, p), boolean, "(not p)")
	isTerm(t, b, app(t, b, api.OAnd, p, q, p), boolean, "(and p q p)")
	isTerm(t, b, app(t, b, api.OOr, q, p), boolean, "(or q p)")
	isTerm(t, b, app(t, b, api.OXor, p, q), boolean, "(xor p q)")
	isTerm(t, b, app(t, b, api.OImplies, p, q), boolean, "(=> p q)")
	isTerm(t, b, app(t, b, api.OEq, p, q), boolean, "(= p q)")
	isTerm(t, b, app(t, b, api.OEq, a, a), boolean, "(= a a)")
	isTerm(t, b, app(t, b, api.OEq, u, u), boolean, "(= u u)")
	isTerm(t, b, app(t, b, api.ODistinct, x, y, x), boolean, "(distinct x y x)")
	isTerm(t, b, app(t, b, api.ODistinct, l, l), boolean, "(distinct l l)")
	isTerm(t, b, app(t, b, api.OIte, p, x, y), integer, "(ite p x y)")
	isTerm(t, b, app(t, b, api.OIte, p, p, q), boolean, "(ite p p q)")
	isTerm(t, b, app(t, b, api.OIte, q, a, a), array(integer, integer), "(ite q a a)")
	isTerm(t, b, named(t, b, api.OFun, "g", x, p, a), data("Color"), "(g x p a)")
	isTerm(t, b, named(t, b, api.OFun, "is so", u, u), boolean, "(|is so| u u)")
	isTerm(t, b, named(t, b, api.OFun, "and", constant(t, b, "b8")), wide(4), "(and b8)")
	isTerm(t, b, named(t, b, api.OCon, "nil"), data("List"), "nil")
	isTerm(t, b, named(t, b, api.OCon, "light green"), data("Color"), "|light green|")
	isTerm(t, b, named(t, b, api.OCon, "cons", x, l), data("List"), "(cons x l)")
	isTerm(t, b, named(t, b, api.OSel, "head", l), integer, "(head l)")
	isTerm(t, b, named(t, b, api.OSel, "tail", l), data("List"), "(tail l)")
	isTerm(t, b, named(t, b, api.OSel, "the lid", constant(t, b, "b")), array(integer, wide(4)), "(|the lid| b)")
	isTerm(t, b, named(t, b, api.OIs, "cons", l), boolean, "((_ is cons) l)")
	isTerm(t, b, named(t, b, api.OIs, "light green", c), boolean, "((_ is |light green|) c)")
}

// P5.1 to P5.6: the Ops of Ints and of arrays.
func TestIntsAndArrays(t *testing.T) {
	b := tableOf(t, some())
	p, x, y, three := constant(t, b, "p"), constant(t, b, "x"), constant(t, b, "y"), number(t, b, 3)
	isTerm(t, b, three, integer, "3")
	isTerm(t, b, number(t, b, 0), integer, "0")
	isTerm(t, b, number(t, b, -1), integer, "(- 1)")
	isTerm(t, b, app(t, b, api.OMinus, x), integer, "(- x)")
	isTerm(t, b, app(t, b, api.OMinus, number(t, b, -1)), integer, "(- (- 1))")
	isTerm(t, b, app(t, b, api.OAbs, x), integer, "(abs x)")
	isTerm(t, b, app(t, b, api.OAdd, x, y, three), integer, "(+ x y 3)")
	isTerm(t, b, app(t, b, api.OSub, x, y), integer, "(- x y)")
	isTerm(t, b, app(t, b, api.OMul, three, x), integer, "(* 3 x)")
	isTerm(t, b, app(t, b, api.OMul, x, three), integer, "(* x 3)")
	isTerm(t, b, app(t, b, api.ODiv, x, three), integer, "(div x 3)")
	isTerm(t, b, app(t, b, api.OMod, x, three), integer, "(mod x 3)")
	isTerm(t, b, app(t, b, api.OLe, x, y), boolean, "(<= x y)")
	isTerm(t, b, app(t, b, api.OLt, x, y), boolean, "(< x y)")
	isTerm(t, b, app(t, b, api.OGe, x, y), boolean, "(>= x y)")
	isTerm(t, b, app(t, b, api.OGt, x, y), boolean, "(> x y)")
	a, aa, inner := constant(t, b, "a"), constant(t, b, "aa"), array(wide(4), boolean)
	isTerm(t, b, app(t, b, api.OSelect, a, x), integer, "(select a x)")
	isTerm(t, b, app(t, b, api.OSelect, aa, x), inner, "(select aa x)")
	isTerm(t, b, app(t, b, api.OSelect, app(t, b, api.OSelect, aa, x), constant(t, b, "b4")), boolean, "(select (select aa x) b4)")
	isTerm(t, b, app(t, b, api.OStore, a, x, y), array(integer, integer), "(store a x y)")
	isTerm(t, b, app(t, b, api.OStore, aa, x, app(t, b, api.OSelect, aa, y)), array(integer, inner), "(store aa x (select aa y))")
	isTerm(t, b, everywhere(t, b, inner, p), inner, "((as const (Array (_ BitVec 4) Bool)) p)")
	isTerm(t, b, everywhere(t, b, array(user("my sort"), data("List")), constant(t, b, "l")), array(user("my sort"), data("List")), "((as const (Array |my sort| List)) l)")
	isTerm(t, b, app(t, b, api.OSelect, constant(t, b, "af"), constant(t, b, "fake")), user("Bool"), "(select af fake)")
}

// P5.1 to P5.6: the Ops of bits.
func TestBitsOps(t *testing.T) {
	b := tableOf(t, some())
	one, four, other, eight := constant(t, b, "b1"), constant(t, b, "b4"), constant(t, b, "d4"), constant(t, b, "b8")
	isTerm(t, b, vector(t, b, 1), wide(1), "#b0")
	isTerm(t, b, vector(t, b, 5, 5), wide(5), "#b00101")
	isTerm(t, b, vector(t, b, 66, 1, 2), wide(66), "#b10"+zeros(63)+"1")
	isTerm(t, b, app(t, b, api.OConcat, four, eight), wide(12), "(concat b4 b8)")
	isTerm(t, b, app(t, b, api.OConcat, one, one), wide(2), "(concat b1 b1)")
	isTerm(t, b, params(t, b, api.OExtract, eight, 6, 2), wide(5), "((_ extract 6 2) b8)")
	isTerm(t, b, params(t, b, api.OExtract, eight, 7, 0), wide(8), "((_ extract 7 0) b8)")
	isTerm(t, b, params(t, b, api.ORepeat, four, 3), wide(12), "((_ repeat 3) b4)")
	isTerm(t, b, params(t, b, api.OZeroExt, four, 3), wide(7), "((_ zero_extend 3) b4)")
	isTerm(t, b, params(t, b, api.OSignExt, four, 3), wide(7), "((_ sign_extend 3) b4)")
	isTerm(t, b, params(t, b, api.ORotL, four, 7), wide(4), "((_ rotate_left 7) b4)")
	isTerm(t, b, params(t, b, api.ORotR, four, 0), wide(4), "((_ rotate_right 0) b4)")
	isTerm(t, b, app(t, b, api.OBvNot, four), wide(4), "(bvnot b4)")
	isTerm(t, b, app(t, b, api.OBvNeg, four), wide(4), "(bvneg b4)")
	isTerm(t, b, app(t, b, api.OBvComp, four, other), wide(1), "(bvcomp b4 d4)")
	for _, r := range chapter() {
		if r.args == "w w" && r.ret == "w" {
			isTerm(t, b, app(t, b, r.op, four, other), wide(4), "("+r.head+" b4 d4)")
			isTerm(t, b, app(t, b, r.op, one, one), wide(1), "("+r.head+" b1 b1)")
		}
		if r.args == "w w" && r.ret == "Bool" {
			isTerm(t, b, app(t, b, r.op, other, four), boolean, "("+r.head+" d4 b4)")
		}
	}
}

// P5.2: fields that an Op does not name are not looked at, and are zero in what is told.
func TestFieldsThatAreNotNamed(t *testing.T) {
	b := tableOf(t, some())
	p, x, four := constant(t, b, "p"), constant(t, b, "x"), constant(t, b, "b4")
	all := func(op api.Op, args ...int) api.Node {
		return api.Node{Op: op, Name: "cons", Int: whole.Of(-7), Bits: api.Bits{Width: -9, Val: api.Nat{1, 2}}, Sort: api.Sort{Kind: 77, Args: []api.Sort{{}}}, Params: []int{-5, 1 << 40, 3}, Args: args}
	}
	same := func(n, bare api.Node) {
		t.Helper()
		bare.Op, bare.Args = n.Op, n.Args
		i := put(t, b, n)
		isNode(t, b, i, bare)
		if j := put(t, b, bare); j != i {
			t.Errorf("%s: %d; with nothing else %d", brief(n), i, j)
		}
	}
	same(all(api.OTrue), api.Node{})
	same(all(api.ONot, p), api.Node{})
	same(all(api.OAdd, x, x), api.Node{})
	same(all(api.OEq, x, x), api.Node{})
	same(all(api.OBvNot, four), api.Node{})
	same(all(api.OIs, constant(t, b, "l")), api.Node{Name: "cons"})
	same(all(api.OCon, x, constant(t, b, "l")), api.Node{Name: "cons"})
	same(all(api.ONum), api.Node{Int: whole.Of(-7)})
	for _, op := range []api.Op{api.OFun, api.OSel} {
		n, name := all(op), "x"
		if op == api.OSel {
			n, name = all(op, constant(t, b, "l")), "head"
		}
		n.Name = name
		same(n, api.Node{Name: name})
	}
	n := all(api.OBits)
	n.Bits = api.Bits{Width: 3, Val: api.Nat{5}}
	same(n, api.Node{Bits: n.Bits})
	n = all(api.OExtract, four)
	n.Params = []int{2, 1}
	same(n, api.Node{Params: n.Params})
	n = all(api.OConst, x)
	n.Sort = array(integer, integer)
	same(n, api.Node{Sort: n.Sort})
}

// P5.2: numbers in any form are one term, and are told in canonical form.
func TestForms(t *testing.T) {
	b := tableOf(t, some())
	same := func(told api.Node, forms ...api.Node) {
		t.Helper()
		i := put(t, b, told)
		for _, n := range forms {
			if j := put(t, b, n); j != i {
				t.Errorf("%s is %d, %s is %d", brief(told), i, brief(n), j)
			}
		}
		isNode(t, b, i, told)
	}
	num := func(neg bool, mag ...uint64) api.Node {
		return api.Node{Op: api.ONum, Int: api.Int{Neg: neg, Mag: mag}}
	}
	same(api.Node{Op: api.ONum}, num(false), num(true), num(true, 0), num(false, 0, 0), num(true, make(api.Nat, 5000)...))
	same(num(false, 5), num(false, 5, 0), num(false, 5, 0, 0), num(false, append(api.Nat{5}, make(api.Nat, 5000)...)...))
	same(num(true, 5), num(true, 5, 0))
	same(num(true, 5, 1), num(true, 5, 1, 0))
	same(num(false, 0, 1), num(false, 0, 1, 0))
	vec := func(w int, val ...uint64) api.Node {
		return api.Node{Op: api.OBits, Bits: api.Bits{Width: w, Val: val}}
	}
	same(vec(8), vec(8, 0), vec(8, make(api.Nat, 5000)...))
	same(vec(8, 255), vec(8, 255, 0, 0))
	same(vec(64, 1<<63), vec(64, 1<<63, 0))
	same(vec(65, 0, 1), vec(65, 0, 1, 0))
	if b.Len() != 9 {
		t.Errorf("%d terms", b.Len())
	}
}

// P5.2: what differs in one field, in the order or the number of its arguments, is another term.
func TestOtherTerms(t *testing.T) {
	b := tableOf(t, some())
	p, q, x, four, eight := constant(t, b, "p"), constant(t, b, "q"), constant(t, b, "x"), constant(t, b, "b4"), constant(t, b, "b8")
	list := []int{p, q, x, four, eight, constant(t, b, "y"), constant(t, b, "l"),
		app(t, b, api.OAnd, p, q), app(t, b, api.OAnd, q, p), app(t, b, api.OAnd, p, q, q), app(t, b, api.OAnd, p, p), app(t, b, api.OOr, p, q), app(t, b, api.OXor, p, q),
		app(t, b, api.OMinus, x), app(t, b, api.OAbs, x), named(t, b, api.OFun, "f", x),
		number(t, b, 1), number(t, b, -1), number(t, b, 2), number(t, b, 0), vector(t, b, 1, 1), vector(t, b, 2, 1), vector(t, b, 2, 2), vector(t, b, 1), vector(t, b, 2),
		params(t, b, api.OExtract, eight, 3, 1), params(t, b, api.OExtract, eight, 3, 2), params(t, b, api.OExtract, eight, 2, 1), params(t, b, api.OExtract, four, 3, 1),
		params(t, b, api.ORotL, four, 1), params(t, b, api.ORotR, four, 1), params(t, b, api.ORotL, four, 2), params(t, b, api.OZeroExt, four, 1), params(t, b, api.OSignExt, four, 1),
		everywhere(t, b, array(integer, integer), x), everywhere(t, b, array(boolean, integer), x), everywhere(t, b, array(user("Bool"), integer), x), everywhere(t, b, array(wide(1), integer), x), everywhere(t, b, array(wide(2), integer), x),
		everywhere(t, b, array(user("U"), integer), x), everywhere(t, b, array(user("my sort"), integer), x), everywhere(t, b, array(data("List"), integer), x), everywhere(t, b, array(data("Color"), integer), x),
		everywhere(t, b, array(array(user("U"), boolean), integer), x), everywhere(t, b, array(array(boolean, user("U")), integer), x),
		named(t, b, api.OCon, "nil"), named(t, b, api.OCon, "red"), named(t, b, api.OIs, "nil", 6), named(t, b, api.OIs, "cons", 6), named(t, b, api.OSel, "tail", 6),
	}
	for want, got := range list {
		if got != want {
			t.Fatalf("the term %d of the list is %d", want, got)
		}
	}
}

// P5.2, P5.5: lists of arguments, of one and of more bytes each, no two of which are one term.
func TestListsOfArguments(t *testing.T) {
	b := tableOf(t, some())
	app(t, b, api.OTrue)
	for b.Len() < 17000 {
		app(t, b, api.ONot, b.Len()-1)
	}
	next := b.Len()
	list := []int{0, 1, 2, 5, 127, 128, 129, 255, 256, 640, 16383, 16384, 16512}
	fresh := func(args ...int) {
		t.Helper()
		if i := app(t, b, api.OAnd, args...); i != next {
			t.Fatalf("and of %v: %d; want %d", args, i, next)
		}
		next++
	}
	for _, i := range list {
		for _, j := range list {
			fresh(i, j)
			for _, k := range list {
				fresh(i, j, k)
			}
		}
	}
}

// P5.2, P5.5: numbers of one limb and of more, with zeros between, and vectors: no two of which are one term.
func TestListsOfLimbs(t *testing.T) {
	b := tableOf(t, some())
	limbs := []uint64{0, 1, 2, 5, 127, 128, 129, 255, 256, 640, 16383, 16384, 1 << 63, ^uint64(0)}
	fresh := func(mag ...uint64) {
		t.Helper()
		next := b.Len()
		for k, n := range []api.Node{{Op: api.ONum, Int: api.Int{Mag: mag}}, {Op: api.ONum, Int: api.Int{Neg: true, Mag: mag}}, {Op: api.OBits, Bits: api.Bits{Width: 192, Val: mag}}, {Op: api.OBits, Bits: api.Bits{Width: 193, Val: mag}}} {
			if i := put(t, b, n); i != next+k {
				t.Fatalf("%s: %d; want %d", brief(n), i, next+k)
			}
		}
	}
	for _, i := range limbs {
		for _, j := range limbs {
			for _, k := range limbs[1:] {
				fresh(i, j, k)
			}
		}
		for _, j := range limbs[1:] {
			fresh(i, j)
		}
	}
}
