package eval_test

import (
	"fmt"
	"math/big"
	"testing"

	"tribunal/api"
	"tribunal/eval"
	"tribunal/value"
)

// These are the tests of P11.3's errors, and of what is told at the limits.

func TestNumbersAtTheMost(t *testing.T) {
	b := tableOf(t, some())
	x, y := call(t, b, "x"), call(t, b, "y")
	top := new(big.Int).Sub(pow(64*api.MaxLimbs), big.NewInt(1))
	low := new(big.Int).Neg(top)
	half := pow(64*api.MaxLimbs - 1)
	one, none, minus, two := numeral(t, b, big.NewInt(1)), numeral(t, b, big.NewInt(0)), numeral(t, b, big.NewInt(-1)), numeral(t, b, big.NewInt(2))
	in := funs(funval("x", great(top)), funval("y", great(low)))
	is(t, b, in, x, great(top))
	is(t, b, in, app(t, b, api.OMinus, x), great(low))
	is(t, b, in, app(t, b, api.OMinus, y), great(top))
	is(t, b, in, app(t, b, api.OAbs, y), great(top))
	is(t, b, in, app(t, b, api.OAdd, x, none), great(top))
	is(t, b, in, app(t, b, api.OAdd, x, y), num(0))
	is(t, b, in, app(t, b, api.OAdd, x, one, minus), great(top)) // what sums of some are plays no part
	is(t, b, in, app(t, b, api.OAdd, x, x, y, y), num(0))
	is(t, b, in, app(t, b, api.OSub, x, x), num(0))
	is(t, b, in, app(t, b, api.OMul, x, minus), great(low))
	is(t, b, in, app(t, b, api.ODiv, x, minus), great(low))
	is(t, b, in, app(t, b, api.ODiv, y, minus), great(top))
	is(t, b, in, app(t, b, api.ODiv, y, two), great(new(big.Int).Neg(half)))
	is(t, b, in, app(t, b, api.OMod, y, two), num(1))
	is(t, b, in, app(t, b, api.ODiv, x, numeral(t, b, low)), num(-1))
	is(t, b, in, app(t, b, api.OMod, y, numeral(t, b, half)), num(1))
	is(t, b, in, app(t, b, api.OGt, x, y), yes(true))
	is(t, b, in, app(t, b, api.OEq, x, app(t, b, api.OAbs, y)), yes(true))
	for _, n := range []int{
		app(t, b, api.OAdd, x, one), app(t, b, api.OAdd, y, minus), app(t, b, api.OAdd, x, one, one, minus), app(t, b, api.OAdd, x, x), app(t, b, api.OSub, x, minus), app(t, b, api.OSub, y, one), app(t, b, api.OSub, x, y),
		app(t, b, api.OMul, x, two), app(t, b, api.OMul, numeral(t, b, top), y),
	} {
		fails(t, b, in, api.ErrBig, n)
		fails(t, b, in, api.ErrBig, x, n, x)
		fails(t, b, in, api.ErrBig, app(t, b, api.OMinus, n))
		fails(t, b, in, api.ErrBig, app(t, b, api.OSub, n, n))
		fails(t, b, in, api.ErrBig, app(t, b, api.OIte, app(t, b, api.OTrue), x, n)) // also where it is not chosen
		fails(t, b, in, api.ErrBig, app(t, b, api.OAnd, app(t, b, api.OFalse), app(t, b, api.OEq, n, n)))
		fails(t, b, in, api.ErrBig, call(t, b, "f", n))
		is(t, b, funs(), app(t, b, api.OIte, app(t, b, api.OTrue), x, none), num(0)) // what is not below plays no part
	}
}

func TestPartsAtTheMost(t *testing.T) {
	g := forests()
	b := tableOf(t, g)
	x := call(t, b, "t")
	up := named(t, b, api.OCon, "up", x)
	in := func(many int) api.Interp { return funs(funval("t", grown(many))) }
	is(t, b, in(api.MaxParts), x, grown(api.MaxParts))
	is(t, b, in(api.MaxParts-1), up, tree("up", grown(api.MaxParts-1)))
	fails(t, b, in(api.MaxParts), api.ErrMany, up)
	fails(t, b, in(api.MaxParts+1), api.ErrInterp, x)
	two := named(t, b, api.OCon, "node", x, x)
	is(t, b, in(api.MaxParts/2-1), two, tree("node", grown(api.MaxParts/2-1), grown(api.MaxParts/2-1)))
	fails(t, b, in(api.MaxParts/2), api.ErrMany, two)
	is(t, b, in(api.MaxParts/2-1), named(t, b, api.OCon, "up", two), tree("up", tree("node", grown(api.MaxParts/2-1), grown(api.MaxParts/2-1))))
	fails(t, b, in(api.MaxParts/2-1), api.ErrMany, named(t, b, api.OCon, "up", named(t, b, api.OCon, "up", two)))
	// The parts of parts of parts are counted, too, and those of what was selected.
	is(t, b, in(api.MaxParts/2-1), named(t, b, api.OCon, "up", named(t, b, api.OSel, "left", two)), tree("up", grown(api.MaxParts/2-1)))
	left := named(t, b, api.OSel, "left", x)
	grand := named(t, b, api.OCon, "node", x, left)
	is(t, b, in(43691), named(t, b, api.OCon, "node", left, left), tree("node", grown(21845), grown(21845)))
	if v, e := eval.Terms(b, in(43691-1), grand); e != api.OK || parts(v[0]) != 43690+1+21844 {
		t.Errorf("error %d", e)
	}
	fails(t, b, in(43692), api.ErrMany, grand)

	everywhere := put(t, b, api.Node{Op: api.OConst, Sort: array(integer, data("T")), Args: []int{x}})
	is(t, b, in(api.MaxParts-1), everywhere, arr(array(integer, data("T")), grown(api.MaxParts-1)))
	fails(t, b, in(api.MaxParts), api.ErrMany, everywhere)
	is(t, b, in(api.MaxParts-1), app(t, b, api.OSelect, everywhere, call(t, b, "x")), grown(api.MaxParts-1))
	twice := put(t, b, api.Node{Op: api.OConst, Sort: array(boolean, array(integer, data("T"))), Args: []int{everywhere}})
	is(t, b, in(api.MaxParts-2), twice, arr(array(boolean, array(integer, data("T"))), arr(array(integer, data("T")), grown(api.MaxParts-2))))
	fails(t, b, in(api.MaxParts-1), api.ErrMany, twice)
}

// OStore is value.Store, also at the limit, where that looks at the array with one row more.
func TestStoresAtTheMost(t *testing.T) {
	s := array(integer, integer)
	g := api.Sig{Funs: []api.Fun{fun("a", s), fun("k", integer), fun("v", integer)}}
	b := tableOf(t, g)
	a, k, v := call(t, b, "a"), call(t, b, "k"), call(t, b, "v")
	store := app(t, b, api.OStore, a, k, v)
	outcomes := map[api.Errno]int{}
	for _, many := range []int{api.MaxParts/2 - 2, api.MaxParts/2 - 1} {
		full := rows(s, many)
		for _, key := range []int64{-1, 0, int64(many) - 1, int64(many)} {
			for _, val := range []int64{0, 1} {
				in := funs(funval("v", num(val)), funval("k", num(key)), funval("a", full))
				want, e := value.Store(full, num(key), num(val), s, g)
				outcomes[e]++
				if e != api.OK {
					fails(t, b, in, e, store)
					continue
				}
				is(t, b, in, store, want)
			}
		}
	}
	if outcomes[api.OK] != 8 || outcomes[api.ErrMany] != 8 || len(outcomes) != 2 {
		t.Errorf("value.Store: %v", outcomes)
	}
}

// The same of keys and values of many parts, where the normal form itself would have less than the limit.
func TestStoresOfGreatParts(t *testing.T) {
	s := array(data("T"), data("T"))
	g := forests()
	g.Funs = append(g.Funs, fun("a", s), fun("k", data("T")), fun("v", data("T")))
	b := tableOf(t, g)
	store := app(t, b, api.OStore, call(t, b, "a"), call(t, b, "k"), call(t, b, "v"))
	a := arr(s, grown(1), row(grown(1000), grown(2000)))
	for _, c := range []struct {
		key, val int
		want     api.Errno
	}{
		{1000, api.MaxParts - 4002, api.OK}, {1000, api.MaxParts - 4001, api.ErrMany}, {1000, api.MaxParts - 4000, api.ErrMany}, {999, api.MaxParts - 4001, api.OK}, {999, api.MaxParts - 4000, api.ErrMany},
		{api.MaxParts - 3003, 1, api.OK}, {api.MaxParts - 3002, 1, api.ErrMany}, {30000, api.MaxParts - 33002, api.OK}, {30000, api.MaxParts - 33001, api.ErrMany},
	} {
		in := funs(funval("a", a), funval("v", grown(c.val)), funval("k", grown(c.key)))
		want, e := value.Store(a, grown(c.key), grown(c.val), s, g)
		if e != c.want {
			t.Fatalf("Store at %d of %d: error %d", c.key, c.val, e)
		}
		if e != api.OK {
			fails(t, b, in, e, store)
		} else {
			is(t, b, in, store, want)
		}
	}
}

// An array is made by stores that add rows, take some away, and put others into their place: its parts are those of its normal form.
func TestPartsOfWhatWasStored(t *testing.T) {
	s := array(integer, data("T"))
	g := forests()
	g.Datas = append(g.Datas, datatype("Hold", con("hold", sel("what", s), sel("rest", data("T")))))
	g.Funs = append(g.Funs, fun("val", data("T"), integer))
	d := &dice{14}
	vals := funval("val", grown(1))
	for i := range 20 {
		vals.Cases = append(vals.Cases, kase(grown(1+i*i*4), num(int64(i))))
	}
	for range 12 {
		b := tableOf(t, g)
		a := put(t, b, api.Node{Op: api.OConst, Sort: s, Args: []int{call(t, b, "val", numeral(t, b, big.NewInt(int64(d.below(20)))))}})
		for range 4 + d.below(30) {
			a = app(t, b, api.OStore, a, numeral(t, b, big.NewInt(int64(d.below(5)))), call(t, b, "val", numeral(t, b, big.NewInt(int64(d.below(20))))))
		}
		m := newModel(b, g, funs(vals))
		want := m.norm(a)
		is(t, b, funs(vals), a, want)
		rest := api.MaxParts - 1 - parts(want)
		hold := named(t, b, api.OCon, "hold", a, call(t, b, "t"))
		if v := told(t, b, funs(vals, funval("t", grown(rest))), hold); parts(v[0]) != api.MaxParts {
			t.Errorf("%d parts", parts(v[0]))
		}
		fails(t, b, funs(vals, funval("t", grown(rest+1))), api.ErrMany, hold)
	}
}

// Over a finite sort a store may make one value Else, and many rows of what was Else.
func TestStoresThatTurn(t *testing.T) {
	g := forests()
	b := tableOf(t, g)
	s := g.Funs[0].Ret
	x, leaf := call(t, b, "t"), named(t, b, api.OCon, "leaf")
	a := put(t, b, api.Node{Op: api.OConst, Sort: s, Args: []int{x}})
	var at []int
	for i := range int64(8) {
		a = app(t, b, api.OStore, a, termOf(t, b, key(3, i)), leaf)
		at = append(at, a)
	}
	in := funs(funval("t", grown(16000)))
	for i, n := range at { // with four at each: leaf is ahead in the order, and Else
		want := arr(s, grown(16000))
		if i >= 3 {
			want = arr(s, tree("leaf"))
		}
		for j := range int64(8) {
			if j <= int64(i) && i < 3 {
				want.Rows = append(want.Rows, row(key(3, j), tree("leaf")))
			}
			if j > int64(i) && i >= 3 {
				want.Rows = append(want.Rows, row(key(3, j), grown(16000)))
			}
		}
		is(t, b, in, n, want)
	}
	in = funs(funval("t", grown(30000)))
	if v, e := eval.Terms(b, in, at[2]); e != api.OK || len(v[0].Rows) != 3 {
		t.Errorf("error %d", e)
	}
	for _, n := range at[3:] { // that at four has too many parts, and all others stand on it
		fails(t, b, in, api.ErrMany, n)
	}
}

// One of the Cases' Args, and what is told; what is not told plays no part, nor does a function that is not asked for.
func TestGreatCases(t *testing.T) {
	g := forests()
	b := tableOf(t, g)
	s := g.Funs[0].Ret
	leaf, form, small := tree("leaf"), turned(30000), arr(g.Funs[0].Ret, tree("leaf"))
	x, a, p := call(t, b, "t"), call(t, b, "s"), call(t, b, "p")
	one, same, keep := call(t, b, "one", a), call(t, b, "same", x), call(t, b, "keep", x)
	in := funs(funval("one", leaf, kase(leaf, small), kase(leaf, form)), funval("same", form), funval("s", small))
	fails(t, b, in, api.ErrMany, one)
	fails(t, b, in, api.ErrMany, same)
	is(t, b, in, a, small)
	is(t, b, in, keep, leaf)
	fails(t, b, in, api.ErrMany, keep, one)
	fails(t, b, in, api.ErrMany, app(t, b, api.OAnd, p, app(t, b, api.OEq, one, x)))
	is(t, b, funs(funval("same", form, kase(small, leaf))), same, small)
	is(t, b, funs(funval("same", small, kase(form, tree("up", leaf)))), same, small)
	fails(t, b, funs(funval("s", form)), api.ErrMany, a)
	fails(t, b, funs(funval("s", form, kase(form))), api.ErrMany, a)
	is(t, b, funs(funval("s", form, kase(small), kase(form))), a, small)
	is(t, b, funs(), a, arr(s, leaf))

	fruit := call(t, b, "fruit")
	flesh, rind := named(t, b, api.OSel, "flesh", fruit), named(t, b, api.OSel, "rind", fruit)
	pip, pit := tree("pip"), tree("pit", small)
	is(t, b, funs(funval("flesh", small), funval("fruit", pip)), flesh, small)
	fails(t, b, funs(funval("flesh", form), funval("fruit", pip)), api.ErrMany, flesh)
	is(t, b, funs(funval("flesh", form), funval("fruit", pit)), flesh, small)
	fails(t, b, funs(funval("flesh", small, kase(small, tree("pit", form))), funval("fruit", pip)), api.ErrMany, flesh)
	fails(t, b, funs(funval("flesh", small, kase(small, tree("pit", form))), funval("fruit", pit)), api.ErrMany, flesh)
	fails(t, b, funs(), api.ErrMany, rind)
	fails(t, b, funs(), api.ErrMany, call(t, b, "wide"))
	is(t, b, funs(funval("rind", thin())), rind, thin())
	is(t, b, funs(funval("fruit", tree("peel", thin()))), rind, thin())
	if v, e := eval.Terms(b, funs(), call(t, b, "less")); e != api.OK || parts(v[0]) != api.MaxParts-1 {
		t.Errorf("error %d", e)
	}
}

// Of several errors that of the term with the lowest number is told, wherever its root stands.
func TestFirstTerm(t *testing.T) {
	g := forests()
	for first := range 2 {
		b := tableOf(t, g)
		var roots []int
		for i := range 2 {
			if i == first {
				roots = append(roots, app(t, b, api.OAdd, call(t, b, "x"), numeral(t, b, big.NewInt(1))))
			} else {
				roots = append(roots, named(t, b, api.OCon, "up", call(t, b, "t")))
			}
		}
		in := funs(funval("x", limbs(api.MaxLimbs)), funval("t", grown(api.MaxParts)))
		want, other := api.ErrBig, api.ErrMany
		if first == 1 {
			want, other = other, want
		}
		fails(t, b, in, want, roots[0], roots[1])
		fails(t, b, in, want, roots[1], roots[0])
		fails(t, b, in, other, roots[1])
		above := app(t, b, api.OAnd, app(t, b, api.OEq, roots[1], roots[1]), app(t, b, api.OEq, roots[0], roots[0]))
		fails(t, b, in, want, above)
	}
}

// Roots of which there are none: Check's error, or nothing.
func TestNoRoots(t *testing.T) {
	b := tableOf(t, some())
	for range 2 {
		if v, e := eval.Terms(b, funs()); len(v) != 0 || e != api.OK {
			t.Errorf("%d values, error %d", len(v), e)
		}
		if v, e := eval.Terms(b, funs(funval("x", limbs(api.MaxLimbs))), []int{}...); len(v) != 0 || e != api.OK {
			t.Errorf("%d values, error %d", len(v), e)
		}
		fails(t, b, funs(funval("x", yes(true))), api.ErrInterp)
		app(t, b, api.OAdd, numeral(t, b, new(big.Int).Sub(pow(64*api.MaxLimbs), big.NewInt(1))), numeral(t, b, big.NewInt(1)))
	}
}

// A number that is no term's, among those that are; its error comes ahead of the interpretation's.
func TestNoTerm(t *testing.T) {
	b := tableOf(t, some())
	x := call(t, b, "x")
	for _, i := range []int{-1, 1, 2, 1 << 40, -1 << 63, 1<<63 - 1} {
		for _, in := range []api.Interp{funs(), funs(funval("x", yes(true)))} {
			fails(t, b, in, api.ErrArg, i)
			fails(t, b, in, api.ErrArg, x, i)
			fails(t, b, in, api.ErrArg, i, x)
		}
	}
	fails(t, tableOf(t, some()), funs(), api.ErrArg, 0)
}

// Great work is done in time: long chains of stores, of sums, of trees and of Bools, and many Cases.
func TestGreatWork(t *testing.T) {
	g := some()
	s := array(wide(14), integer)
	b := tableOf(t, g)
	a := put(t, b, api.Node{Op: api.OConst, Sort: s, Args: []int{numeral(t, b, big.NewInt(0))}})
	l, x, p := call(t, b, "l"), call(t, b, "x"), call(t, b, "p")
	for i := range 16383 {
		key := put(t, b, api.Node{Op: api.OBits, Bits: vec(14, uint64(i*7919%16384)).Bits})
		n := numeral(t, b, big.NewInt(int64(i+1)))
		a = app(t, b, api.OStore, a, key, n)
		l = named(t, b, api.OCon, "cons", n, l)
		p = app(t, b, api.ONot, p)
	}
	for range 64*api.MaxLimbs - 1 {
		x = app(t, b, api.OAdd, x, x)
	}
	in := funs(funval("x", num(1)), funval("f", num(-1)))
	for i := range 60000 {
		in.Funs[1].Cases = append(in.Funs[1].Cases, kase(num(int64(i+1)), num(int64(i*7919%60000))))
	}
	roots := []int{a, l, p, x, app(t, b, api.OEq, l, l)}
	for i := range 5000 {
		roots = append(roots, call(t, b, "f", numeral(t, b, big.NewInt(int64(i*7919%60000)))))
	}
	v, e := eval.Terms(b, in, roots...)
	if e != api.OK || len(v) != len(roots) {
		t.Fatalf("%d values, error %d", len(v), e)
	}
	if len(v[0].Rows) != 16383 || parts(v[1]) != 2*16383+1 || !v[2].Bool || len(v[3].Int.Mag) != api.MaxLimbs || !v[4].Bool {
		t.Error("other values")
	}
	for i, r := range v[0].Rows {
		if unsignedOf(r.Key).Int64() >= 16384 || i > 0 && unsignedOf(r.Key).Cmp(unsignedOf(v[0].Rows[i-1].Key)) <= 0 {
			t.Fatal("rows that do not rise")
		}
		if n := numberOf(r.Val).Int64(); (n-1)*7919%16384 != unsignedOf(r.Key).Int64() {
			t.Fatal(fmt.Sprint("another value at a key: ", n))
		}
	}
	for i, got := range v[5:] {
		if numberOf(got).Int64() != int64(i+1) {
			t.Fatalf("f at the Arg of Case %d: %s", i, show(got))
		}
	}
}
