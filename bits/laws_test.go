package bits_test

import (
	"math/big"
	"slices"
	"testing"

	"tribunal/api"
	"tribunal/bits"
	"tribunal/whole"
)

// These are the tests of P9.4, by the calls alone.

func apply(t *testing.T, op api.Op, args ...api.Bits) api.Bits {
	t.Helper()
	b, err := bits.Apply(op, nil, args...)
	if err != api.OK {
		t.Errorf("Apply(%d): error %d", op, err)
	}
	return b
}

func of(t *testing.T, w int, n uint64) api.Bits {
	t.Helper()
	b, err := bits.Of(w, n)
	if err != api.OK {
		t.Errorf("Of(%d): error %d", w, err)
	}
	return b
}

// agree asks for one and the same vector, field by field.
func agree(t *testing.T, law string, a, b api.Bits) {
	t.Helper()
	if !same(a, b) {
		t.Errorf("%s: %s and %s of %d and %d bits", law, short(row(a)), short(row(b)), a.Width, b.Width)
	}
}

// triples calls with vectors of all widths that are tried: all of 1 and 2 bits, and some of others.
func triples(check func(a, b, c api.Bits)) {
	for w := 1; w <= 2; w++ {
		for _, a := range allBits(w) {
			for _, b := range allBits(w) {
				for _, c := range allBits(w) {
					check(vec(a), vec(b), vec(c))
				}
			}
		}
	}
	d := &dice{77}
	for _, w := range slices.Concat(widths(), greatWidths()) {
		list := samples(w)
		for range 40 {
			check(vec(list[d.below(len(list))]), vec(list[d.below(len(list))]), vec(d.bits(w)))
		}
	}
}

func TestRings(t *testing.T) {
	triples(func(a, b, c api.Bits) {
		add := func(x, y api.Bits) api.Bits { return apply(t, api.OBvAdd, x, y) }
		mul := func(x, y api.Bits) api.Bits { return apply(t, api.OBvMul, x, y) }
		zero, one := of(t, a.Width, 0), of(t, a.Width, 1)
		agree(t, "a + b = b + a", add(a, b), add(b, a))
		agree(t, "(a + b) + c = a + (b + c)", add(add(a, b), c), add(a, add(b, c)))
		agree(t, "a + 0 = a", add(a, zero), a)
		agree(t, "a + -a = 0", add(a, apply(t, api.OBvNeg, a)), zero)
		agree(t, "a - b = a + -b", apply(t, api.OBvSub, a, b), add(a, apply(t, api.OBvNeg, b)))
		agree(t, "a b = b a", mul(a, b), mul(b, a))
		agree(t, "(a b) c = a (b c)", mul(mul(a, b), c), mul(a, mul(b, c)))
		agree(t, "a 1 = a", mul(a, one), a)
		agree(t, "a (b + c) = a b + a c", mul(a, add(b, c)), add(mul(a, b), mul(a, c)))
		agree(t, "-a = not a + 1", apply(t, api.OBvNeg, a), add(apply(t, api.OBvNot, a), one))
	})
}

// The vector of a sum, of a product is that of the vectors, whichever of the numbers stands for each.
func TestNumbersModulo(t *testing.T) {
	d := &dice{8}
	for _, w := range slices.Concat(widths(), greatWidths()) {
		for range 20 {
			m, n := intOf(new(big.Int).Sub(unsigned(d.bits(2*w)), pow(2*w-1))), intOf(new(big.Int).Sub(unsigned(d.bits(w+70)), pow(w+69)))
			a, _ := bits.From(w, m)
			b, _ := bits.From(w, n)
			sum, _ := whole.Add(m, n)
			product, _ := whole.Mul(m, n)
			of, err := bits.From(w, sum)
			agree(t, "a sum modulo 2^w", apply(t, api.OBvAdd, a, b), of)
			ofProduct, err2 := bits.From(w, product)
			agree(t, "a product modulo 2^w", apply(t, api.OBvMul, a, b), ofProduct)
			u, err3 := bits.Unsigned(a)
			s, err4 := bits.Signed(a)
			if err != api.OK || err2 != api.OK || err3 != api.OK || err4 != api.OK {
				t.Errorf("errors %d, %d, %d, %d", err, err2, err3, err4)
			}
			_, rest, _ := whole.DivMod(m, intOf(pow(w)))
			_, restOfSigned, _ := whole.DivMod(s, intOf(pow(w)))
			if whole.Cmp(u, rest) != 0 || whole.Cmp(restOfSigned, rest) != 0 {
				t.Errorf("the numbers of a vector of %d bits are not that of which it is, modulo 2^%d", w, w)
			}
		}
	}
}

// u is (u / v) v and what is left, also by 0; so it is of the signed divisions.
func TestDivisionsGoBack(t *testing.T) {
	triples(func(a, b, _ api.Bits) {
		for _, by := range []api.Bits{b, of(t, a.Width, 0), of(t, a.Width, 1), apply(t, api.OBvNot, of(t, a.Width, 0)), a} {
			for _, ops := range [][2]api.Op{{api.OBvUdiv, api.OBvUrem}, {api.OBvSdiv, api.OBvSrem}} {
				quo, rest := apply(t, ops[0], a, by), apply(t, ops[1], a, by)
				agree(t, "u is (u / v) v and what is left", apply(t, api.OBvAdd, apply(t, api.OBvMul, quo, by), rest), a)
			}
			if len(by.Val) == 0 {
				continue
			}
			if below, err := bits.Holds(api.OBvUlt, apply(t, api.OBvUrem, a, by), by); !below || err != api.OK {
				t.Errorf("what is left of %s by %s is not below it", short(row(a)), short(row(by)))
			}
			rest, cut := apply(t, api.OBvSmod, a, by), apply(t, api.OBvSrem, a, by)
			if !same(rest, cut) && !same(rest, apply(t, api.OBvAdd, cut, by)) {
				t.Errorf("%s by %s: smod is neither srem nor t more", short(row(a)), short(row(by)))
			}
			if len(rest.Val) > 0 && row(rest)[0] != row(by)[0] {
				t.Errorf("%s by %s: smod has another sign than t", short(row(a)), short(row(by)))
			}
		}
	})
}

func TestOppositesBitByBit(t *testing.T) {
	triples(func(a, b, _ api.Bits) {
		not := func(x api.Bits) api.Bits { return apply(t, api.OBvNot, x) }
		agree(t, "nand", apply(t, api.OBvNand, a, b), not(apply(t, api.OBvAnd, a, b)))
		agree(t, "nor", apply(t, api.OBvNor, a, b), not(apply(t, api.OBvOr, a, b)))
		agree(t, "xnor", apply(t, api.OBvXnor, a, b), not(apply(t, api.OBvXor, a, b)))
		agree(t, "not not", not(not(a)), a)
		agree(t, "a or b = not (not a and not b)", apply(t, api.OBvOr, a, b), not(apply(t, api.OBvAnd, not(a), not(b))))
		agree(t, "a xor b = (a or b) - (a and b)", apply(t, api.OBvXor, a, b), apply(t, api.OBvSub, apply(t, api.OBvOr, a, b), apply(t, api.OBvAnd, a, b)))
	})
}
