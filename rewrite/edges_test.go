package rewrite_test

import (
	"fmt"
	"math/big"
	"slices"
	"strings"
	"testing"

	"tribunal/api"
	"tribunal/rewrite"
)

// crowd is a signature with so many Bools p0, p1, .. and Ints x0, x1, ..
func crowd(many int) api.Sig {
	var g api.Sig
	for k := range many {
		g.Funs = append(g.Funs, fun(fmt.Sprint("p", k), boolean), fun(fmt.Sprint("x", k), integer))
	}
	return g
}

// row is a letter with the numbers from, .., to less 1, with blanks between.
func row(letter string, from, to int) string {
	var list []string
	for k := from; k < to; k++ {
		list = append(list, fmt.Sprint(letter, k))
	}
	return strings.Join(list, " ")
}

// P12.1, rule 3: how many arguments an OAnd and an OOr take in.
func TestManyConjuncts(t *testing.T) {
	w := newWorld(t, crowd(140))
	for _, op := range []string{"and", "or"} {
		idle, strong := "true", "false"
		if op == "or" {
			idle, strong = strong, idle
		}
		p := func(from, to int) string { return row("p", from, to) }
		all := func(parts ...string) string { return "(" + op + " " + strings.Join(parts, " ") + ")" }
		w.simplify(
			all(all(p(0, 32)), all(p(32, 64)))+" : "+all(p(0, 64)),
			all(all(p(0, 63)), "p63")+" : "+all(p(0, 64)),
			all("p0", all(p(1, 64)))+" : "+all(p(0, 64)),
			all(p(0, 62), all(p(62, 64)))+" : "+all(p(0, 64)),
			all(p(0, 62), all("p0", "p1"))+" : "+all(p(0, 62)),
			all(p(0, 62), all("p62", "(not p0)"))+" : "+strong,
			// One too many at first, but not without those that say nothing.
			all(p(0, 62), idle, all(p(62, 64)))+" : "+all(p(0, 64)),
			all(p(0, 62), "p3", all(p(62, 64)))+" : "+all(p(0, 64)),
			all(p(0, 61), "p3", idle, all(p(61, 63)))+" : "+all(p(0, 63)),
			all(p(0, 63), "(not p5)")+" : "+strong,
			all(p(0, 62), "(not p5)", all(p(62, 64)))+" : "+strong,
			all(p(0, 64))+" : "+all(p(0, 64)),
			all(p(0, 63), "p0")+" : "+all(p(0, 63)),
			// All of them are taken in, or none.
			all(all("p0", "p1"), all(p(2, 65)), idle)+" : "+all(all("p0", "p1"), all(p(2, 65))),
			all(all(p(0, 40)), all(p(40, 80)), all("p0", "p1"), "p1", "p1")+" : "+all(all(p(0, 40)), all(p(40, 80)), all("p0", "p1"), "p1"),
		)
		w.stay(
			all(all(p(0, 32)), all(p(32, 65))), all(all(p(0, 64)), "p64"), all("p0", all(p(1, 65))), all(p(0, 63), all(p(63, 65))),
			all(p(0, 63), all("p0", "p1")), all(p(0, 63), all("p63", "(not p0)")), all(all(p(0, 64)), all("p0", "p1")), all(all(p(0, 64)), all(p(64, 128))),
			all("p0", "p1"),
		)
	}
}

// P12.1, rule 7, and P12.2: how many arguments of an ODistinct are told pair by pair.
func TestManyDistinct(t *testing.T) {
	w := newWorld(t, crowd(70))
	pairs := func(many int) []string {
		var list []string
		for i := range many {
			for j := i + 1; j < many; j++ {
				list = append(list, fmt.Sprintf("(not (= x%d x%d))", i, j))
			}
		}
		return list
	}
	and := func(list []string) string { return "(and " + strings.Join(list, " ") + ")" }
	distinct := func(many int) string { return "(distinct " + row("x", 0, many) + ")" }
	w.simplify(distinct(2) + " : (not (= x0 x1))")
	for many := 3; many <= 11; many++ {
		w.simplify(distinct(many) + " : " + and(pairs(many)))
	}
	w.stay(distinct(12), distinct(13), distinct(64))
	w.simplify("(distinct "+row("x", 0, 63)+" x62) : false", "(distinct "+row("x", 0, 12)+" (+ x0 0)) : false", "(distinct "+row("x", 0, 12)+" (+ x12 0)) : "+distinct(13))

	for _, many := range []int{2, 3, 11, 12, 13, 16, 17, 64} {
		want := pairs(many)
		for len(want) > 64 {
			var fewer []string
			for some := range slices.Chunk(want, 64) {
				fewer = append(fewer, and(some))
			}
			want = fewer
		}
		text := want[0]
		if len(want) > 1 {
			text = and(want)
		}
		w.basics(w.read(distinct(many)), w.read(text))
	}
}

// P12.1, rule 8: how many parts a sum has.
func TestManyParts(t *testing.T) {
	w := newWorld(t, crowd(140))
	x := func(from, to int) string { return row("x", from, to) }
	sum := func(parts ...string) string { return "(+ " + strings.Join(parts, " ") + ")" }
	times := func(by string, from, to int) string {
		var list []string
		for k := from; k < to; k++ {
			list = append(list, fmt.Sprintf("(* %s x%d)", by, k))
		}
		return strings.Join(list, " ")
	}
	w.simplify(
		sum(sum(x(0, 32)), sum(x(32, 64)))+" : "+sum(x(0, 64)),
		sum(sum(x(0, 63)), "1")+" : "+sum(x(0, 63), "1"),
		sum(sum(x(0, 63), "1"), "1")+" : "+sum(x(0, 63), "2"),
		sum(sum(x(0, 63), "1"), "x63", "-1")+" : "+sum(x(0, 64)),
		sum(sum(x(0, 40)), sum(x(20, 60)))+" : "+sum(x(0, 20), times("2", 20, 40), x(40, 60)),
		sum(sum(x(0, 64)), sum(x(0, 64)))+" : "+sum(times("2", 0, 64)),
		"(- "+sum(x(0, 64))+" "+sum(x(0, 64))+") : 0",
		"(- "+sum(x(0, 64))+" "+sum(x(1, 64), "x0")+") : 0",
		"(- "+sum(x(0, 64))+" "+sum(x(0, 63), "x64")+") : (+ x63 (* -1 x64))",
		"(- "+sum(x(0, 64))+") : "+sum(times("-1", 0, 64)),
		"(* 3 "+sum(x(0, 64))+") : "+sum(times("3", 0, 64)),
		"(* "+sum(x(0, 63), "7")+" 3) : "+sum(times("3", 0, 63), "21"),
		"(- "+sum(sum(x(0, 40)), sum(x(40, 80)))+") : "+sum(sum(times("-1", 0, 40)), sum(times("-1", 40, 80))),
		"(* 2 "+sum(sum(x(0, 40)), sum(x(40, 80)), "1")+") : "+sum(sum(times("2", 0, 40)), sum(times("2", 40, 80)), "2"),
		// An OAdd that is too great to be taken in is one part: what is put together are such ones.
		"(- "+sum(sum(x(0, 40)), sum(x(40, 80)))+" "+sum(sum(x(0, 40)), sum(x(40, 80)))+") : 0",
		"(- "+sum(sum(x(0, 40)), sum(x(40, 80)))+" "+sum(x(0, 40))+") : "+sum(x(40, 80)),
		sum(sum(sum(x(0, 40)), sum(x(40, 80))), "1")+" : "+sum(sum(x(0, 40)), sum(x(40, 80)), "1"),
	)
	w.stay(
		sum(sum(x(0, 32)), sum(x(32, 65))), sum(sum(x(0, 64)), "1"), sum(sum(x(0, 64)), "x64"), sum(x(0, 63), sum("x63", "x64")), sum("1", sum(x(0, 64))),
		"(- "+sum(x(0, 64))+" x64)", "(- "+sum(x(0, 32))+" "+sum(x(32, 65))+")", "(- "+sum(x(0, 64))+" 1)", sum(x(0, 64)), sum(x(0, 63), "1"),
	)
}

// Sums and products whose numbers have MaxLimbs limbs, and one more.
func TestLongNumbers(t *testing.T) {
	w := newWorld(t, some())
	top := most()
	low := new(big.Int).Neg(top)
	half := new(big.Int).Rsh(new(big.Int).Add(top, big.NewInt(1)), 1) // 2 times it is too long by one
	root := new(big.Int).Lsh(big.NewInt(1), 32*api.MaxLimbs)
	x, y, p := w.fun("x"), w.fun("y"), w.fun("p")
	num, great, of := w.num, w.great, w.of
	sums := map[int]int{
		of(api.OAdd, great(top), num(-1)):                                            great(new(big.Int).Sub(top, big.NewInt(1))),
		of(api.OAdd, great(top), num(1), num(-1)):                                    great(top),
		of(api.OAdd, great(top), great(top), great(low)):                             great(top),
		of(api.OMinus, great(top)):                                                   great(low),
		of(api.OMinus, great(low)):                                                   great(top),
		of(api.OAbs, great(low)):                                                     great(top),
		of(api.OMul, great(low), num(-1)):                                            great(top),
		of(api.OSub, great(low), great(low)):                                         num(0),
		of(api.OMul, great(root), great(new(big.Int).Rsh(root, 1))):                  great(half),
		of(api.ODiv, great(low), num(-1)):                                            great(top),
		of(api.OMod, great(top), great(half)):                                        great(new(big.Int).Sub(half, big.NewInt(1))),
		of(api.OLe, great(low), great(top)):                                          of(api.OTrue),
		of(api.OAdd, great(top), x):                                                  of(api.OAdd, x, great(top)),
		of(api.OAdd, x, great(top), num(1), num(-1)):                                 of(api.OAdd, x, great(top)),
		of(api.OAdd, of(api.OAdd, x, great(top)), num(0), of(api.OMinus, x)):         great(top),
		of(api.OMul, great(half), of(api.OAdd, x, num(1))):                           of(api.OAdd, of(api.OMul, great(half), x), great(half)),
		of(api.OMul, num(-1), of(api.OAdd, x, great(top))):                           of(api.OAdd, of(api.OMul, num(-1), x), great(low)),
		of(api.OAdd, of(api.OMul, great(top), x), of(api.OMul, num(-1), x)):          of(api.OMul, great(new(big.Int).Sub(top, big.NewInt(1))), x),
		of(api.OAdd, of(api.OMul, great(top), x), x, of(api.OMinus, x)):              of(api.OMul, great(top), x),
		of(api.OSub, of(api.OMul, great(top), x), of(api.OMul, great(top), x)):       num(0),
		of(api.OMul, num(0), of(api.OAdd, x, great(top), num(1))):                    num(0),
		of(api.OMul, of(api.OAdd, x, great(top), num(1)), num(0)):                    num(0),
		of(api.OMul, great(root), of(api.OMul, great(new(big.Int).Rsh(root, 1)), x)): of(api.OMul, great(half), x),
	}
	for from, to := range sums {
		w.simplifies(from, to)
	}
	for _, i := range []int{
		of(api.OAdd, x, great(top), num(1)), of(api.OAdd, x, num(1), great(top)), of(api.OAdd, great(low), x, num(-1)), of(api.OSub, of(api.OAdd, x, great(top)), num(-1)), of(api.OMul, num(2), of(api.OAdd, x, great(top))), of(api.OMul, of(api.OAdd, x, great(top)), num(2)),
		of(api.OMul, num(2), of(api.OMul, great(half), x)), of(api.OMul, of(api.OMul, great(half), x), num(-2)), of(api.OMul, great(root), of(api.OMul, great(root), x)), of(api.OAdd, of(api.OMul, great(top), x), x), of(api.OSub, of(api.OMul, great(low), x), x), of(api.OAdd, y, of(api.OMul, great(half), x), of(api.OMul, great(half), x)),
		of(api.OSub, of(api.OAdd, x, great(top)), of(api.OAdd, x, great(low))), of(api.OAdd, of(api.OAdd, x, great(top)), of(api.OAdd, y, great(top))), of(api.OMul, great(top), of(api.OAdd, x, num(2)))} {
		w.simplifies(i, i)
	}
	// A literal that is too long a number is none.
	for _, long := range []int{
		of(api.OAdd, great(top), num(1)), of(api.OAdd, num(1), great(top)), of(api.OAdd, great(low), num(-1)), of(api.OAdd, great(top), num(1), num(1), num(-1)), of(api.OSub, great(top), num(-1)), of(api.OSub, great(low), great(top)),
		of(api.OMul, great(half), num(2)), of(api.OMul, num(-2), great(half)), of(api.OMul, great(root), great(root)), of(api.OMul, great(top), great(top)),
	} {
		for _, i := range []int{long, of(api.OMinus, long), of(api.OMul, num(0), long), of(api.OIte, of(api.OTrue), x, long), of(api.OAnd, of(api.OFalse), of(api.OEq, x, long)), of(api.OSub, long, long), of(api.OIte, p, of(api.OAdd, x, long), x)} {
			if got, e := rewrite.Simplify(w.Table, i); got != 0 || e != api.ErrBig {
				t.Errorf("Simplify of too long a number: %d, error %d", got, e)
			}
		}
		w.basics(of(api.OAdd, x, long), of(api.OAdd, x, basicOf(w, long)))
	}
	w.basics(of(api.OMinus, great(top)), great(low))
	w.basics(of(api.OMinus, great(low)), great(top))
	w.basics(of(api.OAdd, great(top), num(1)), of(api.OAdd, great(top), num(1)))
}

func basicOf(w *world, i int) int {
	w.Helper()
	got, e := rewrite.Basic(w.Table, i)
	if e != api.OK {
		w.Errorf("Basic: error %d", e)
	}
	return got
}

// Vectors of MaxWidth bits, whose numbers have many limbs.
func TestWideVectors(t *testing.T) {
	w := newWorld(t, api.Sig{Funs: []api.Fun{fun("b", wide(api.MaxWidth)), fun("d", wide(64)), fun("e", wide(65))}})
	for _, width := range []int{64, 65, api.MaxWidth} {
		b := w.fun(map[int]string{64: "d", 65: "e", api.MaxWidth: "b"}[width])
		literal := func(n *big.Int) int {
			return w.put(api.Node{Op: api.OBits, Bits: api.Bits{Width: width, Val: limbsOf(n)}})
		}
		one := big.NewInt(1)
		full := new(big.Int).Sub(new(big.Int).Lsh(one, uint(width)), one)
		zero, unit, all, less, more := literal(new(big.Int)), literal(one), literal(full), literal(new(big.Int).Sub(full, one)), literal(new(big.Int).Rsh(full, 1))
		for _, is := range [][4]int{{int(api.OBvAnd), b, all, b}, {int(api.OBvAnd), zero, b, zero}, {int(api.OBvOr), all, b, all}, {int(api.OBvOr), b, zero, b}, {int(api.OBvXor), b, b, zero}, {int(api.OBvSub), b, b, zero}, {int(api.OBvMul), unit, b, b}, {int(api.OBvMul), b, zero, zero}, {int(api.OBvAdd), zero, b, b}, {int(api.OBvShl), b, zero, b}} {
			w.simplifies(w.of(api.Op(is[0]), is[1], is[2]), is[3])
		}
		for _, op := range []api.Op{api.OBvAnd, api.OBvOr, api.OBvMul} {
			for _, other := range []int{less, more} {
				i := w.of(op, b, other)
				w.simplifies(i, i)
			}
		}
		extract := func(of, high, low int) int {
			return w.put(api.Node{Op: api.OExtract, Params: []int{high, low}, Args: []int{of}})
		}
		w.simplifies(extract(b, width-1, 0), b)
		w.simplifies(extract(extract(b, width-1, 1), width-2, 1), extract(b, width-1, 2))
		w.simplifies(extract(extract(b, width-2, 0), width-3, 0), extract(b, width-3, 0))
		for _, i := range []int{extract(b, width-1, 1), extract(b, width-2, 0)} {
			w.simplifies(i, i)
		}
	}
}

// Constructors with as many selectors as there may be, and with one.
func TestGreatTrees(t *testing.T) {
	many, one := con("many"), con("one", sel("only", integer))
	for k := range api.MaxArgs {
		many.Sels = append(many.Sels, sel(fmt.Sprint("s", k), integer))
	}
	g := crowd(140)
	g.Datas = []api.Datatype{{Name: "D", Cons: []api.Con{many, one, con("none")}}}
	w := newWorld(t, g)
	var each []string
	for k := range api.MaxArgs {
		each = append(each, fmt.Sprintf("(= x%d x%d)", k, k+64))
	}
	first, second := "(many "+row("x", 0, 64)+")", "(many "+row("x", 64, 128)+")"
	w.simplify("(= "+first+" "+second+") : (and "+strings.Join(each, " ")+")", "(= "+first+" (many "+row("x", 0, 63)+" x70)) : (= x63 x70)", "(= "+first+" (one x1)) : false", "(= (one x1) none) : false", "(= (one x1) (one x2)) : (= x1 x2)", "(s63 "+first+") : x63", "(s0 "+first+") : x0", "(only (one x1)) : x1")
	w.stay("(s0 (one x1))", "(only none)", "(only "+first+")")
}
