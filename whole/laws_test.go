package whole_test

import (
	"math/big"
	"slices"
	"testing"

	"tribunal/api"
	"tribunal/whole"
)

// These are the tests of P2.6 to P2.10: the calls are held against one another alone.

// pairs calls check with numbers of all kinds.
func pairs(check func(a, b api.Int)) {
	for _, a := range samples() {
		for _, b := range samples() {
			check(a, b)
		}
	}
	d := &dice{10}
	for range 1500 {
		check(d.number(d.below(7)), d.number(d.below(5)))
	}
	list := []api.Int{most(), turned(most()), pow(mostBits - 1), turned(ones(api.MaxLimbs / 2)), of(-1), of(3), minus(top, 0), padded(pow(mostBits/2), 2)}
	for _, a := range list {
		for _, b := range list {
			check(a, b)
		}
	}
}

// times is a product, which may be too long to be answered, and yet be part of a sum.
func times(a, b api.Int) api.Int { return fromBig(new(big.Int).Mul(toBig(a), toBig(b))) }

// triples are numbers small enough for sums and products of all three.
func triples(check func(a, b, c api.Int)) {
	list := samples()
	d := &dice{11}
	for range 3000 {
		check(d.number(d.below(6)), d.number(d.below(6)), d.number(d.below(6)))
		check(list[d.below(len(list))], list[d.below(len(list))], list[d.below(len(list))])
	}
}

func TestBothDivisions(t *testing.T) {
	pairs(func(a, b api.Int) {
		if whole.Sign(b) == 0 {
			return
		}
		q, r, err := whole.Quo(a, b)
		d, m, err2 := whole.DivMod(a, b)
		if err != api.OK || err2 != api.OK {
			t.Errorf("%s by %s: errors %d, %d", brief(a), brief(b), err, err2)
		}
		if !same(must(whole.Add(times(q, b), r)), whole.Norm(a)) || !same(must(whole.Add(times(d, b), m)), whole.Norm(a)) {
			t.Errorf("%s is not q b + r, by %s", brief(a), brief(b))
		}
		if whole.Sign(r) != 0 && whole.Sign(r) != whole.Sign(a) || whole.Cmp(whole.Abs(r), whole.Abs(b)) >= 0 {
			t.Errorf("%s by %s leaves %s", brief(a), brief(b), brief(r))
		}
		if whole.Sign(m) < 0 || whole.Cmp(m, whole.Abs(b)) >= 0 {
			t.Errorf("%s by %s has the rest %s", brief(a), brief(b), brief(m))
		}
		if whole.Cmp(whole.Abs(must(whole.Sub(q, d))), of(1)) > 0 {
			t.Errorf("%s by %s: the quotients are %s and %s", brief(a), brief(b), brief(q), brief(d))
		}
	})
}

func TestOrderAndProductsOfSums(t *testing.T) {
	triples(func(a, b, c api.Int) {
		sum := must(whole.Sum(a, b, c))
		product := must(whole.Mul(must(whole.Mul(a, b)), c))
		for _, l := range [][]api.Int{{a, c, b}, {b, a, c}, {b, c, a}, {c, a, b}, {c, b, a}} {
			if !same(must(whole.Sum(l...)), sum) || !same(must(whole.Add(l[0], must(whole.Add(l[1], l[2])))), sum) {
				t.Errorf("another sum of %v", l)
			}
			if !same(must(whole.Mul(l[0], must(whole.Mul(l[1], l[2])))), product) {
				t.Errorf("another product of %v", l)
			}
		}
		left := must(whole.Mul(a, must(whole.Add(b, c))))
		if !same(left, must(whole.Add(must(whole.Mul(a, b)), must(whole.Mul(a, c))))) {
			t.Errorf("a product with a sum: %v, %v, %v", a, b, c)
		}
		if !same(must(whole.Sub(a, b)), must(whole.Sum(a, whole.Neg(b)))) {
			t.Errorf("a difference: %v, %v", a, b)
		}
	})
}

func TestDivisors(t *testing.T) {
	pairs(func(a, b api.Int) {
		g, x, y, err := whole.Extended(a, b)
		if err != api.OK || !same(g, must(whole.Gcd(a, b))) || !same(g, must(whole.Gcd(b, a, b))) {
			t.Errorf("Gcd and Extended of %s, %s", brief(a), brief(b))
		}
		if !same(must(whole.Add(times(a, x), times(b, y))), g) {
			t.Errorf("g is not a x + b y: %s, %s", brief(a), brief(b))
		}
		if whole.Sign(g) == 0 {
			if whole.Sign(a) != 0 || whole.Sign(b) != 0 {
				t.Errorf("Gcd(%s, %s): 0", brief(a), brief(b))
			}
			return
		}
		for _, n := range []api.Int{a, b} {
			if _, r, err := whole.Quo(n, g); err != api.OK || whole.Sign(r) != 0 {
				t.Errorf("%s does not divide %s", brief(g), brief(n))
			}
		}
	})
	triples(func(a, b, c api.Int) {
		if whole.Sign(c) == 0 {
			return
		}
		g := must(whole.Gcd(must(whole.Mul(a, c)), must(whole.Mul(b, c))))
		if _, r, err := whole.Quo(g, c); err != api.OK || whole.Sign(r) != 0 {
			t.Errorf("%s divides both and not their Gcd", brief(c))
		}
	})
}

func TestOrderAndTexts(t *testing.T) {
	pairs(func(a, b api.Int) {
		s, err := whole.Print(a)
		back, err2 := whole.Parse(s)
		if err != api.OK || err2 != api.OK || !same(back, whole.Norm(a)) {
			t.Errorf("Parse of Print of %s", brief(a))
		}
		order := whole.Cmp(a, b)
		if other, _ := whole.Print(b); (order == 0) != (s == other) {
			t.Errorf("Cmp(%s, %s): %d", brief(a), brief(b), order)
		}
		if whole.Cmp(b, a) != -order || whole.Cmp(whole.Neg(b), whole.Neg(a)) != order {
			t.Errorf("Cmp(%s, %s): %d, turned round another", brief(a), brief(b), order)
		}
		if less, err := whole.Sub(a, b); err == api.OK && whole.Sign(less) != order {
			t.Errorf("Cmp(%s, %s): %d, the difference says otherwise", brief(a), brief(b), order)
		}
	})
	triples(func(a, b, c api.Int) {
		if whole.Cmp(must(whole.Add(a, c)), must(whole.Add(b, c))) != whole.Cmp(a, b) {
			t.Errorf("a sum does not keep the order: %v, %v, %v", a, b, c)
		}
		if whole.Cmp(a, b) <= 0 && whole.Cmp(b, c) <= 0 && whole.Cmp(a, c) > 0 {
			t.Errorf("no order: %v, %v, %v", a, b, c)
		}
	})
	list := samples()
	slices.SortFunc(list, whole.Cmp)
	for i := 1; i < len(list); i++ {
		if toBig(list[i-1]).Cmp(toBig(list[i])) > 0 {
			t.Errorf("sorted: %v ahead of %v", list[i-1], list[i])
		}
	}
}

func TestRounding(t *testing.T) {
	pairs(func(a, b api.Int) {
		if whole.Sign(b) == 0 {
			return
		}
		low, err := whole.Floor(a, b)
		high, err2 := whole.Ceil(a, b)
		if err != api.OK || err2 != api.OK {
			t.Errorf("%s by %s: errors %d, %d", brief(a), brief(b), err, err2)
		}
		// low <= a / b is low |b| <= a or -a.
		by, n := whole.Abs(b), whole.Norm(a)
		if whole.Sign(b) < 0 {
			n = whole.Neg(a)
		}
		if whole.Cmp(times(low, by), n) > 0 || whole.Cmp(times(high, by), n) < 0 {
			t.Errorf("%s by %s rounded: %s, %s", brief(a), brief(b), brief(low), brief(high))
		}
		_, r, _ := whole.Quo(a, b)
		want := of(1)
		if whole.Sign(r) == 0 {
			want = of(0)
		}
		if !same(must(whole.Sub(high, low)), want) {
			t.Errorf("%s by %s: %s and %s differ otherwise than by the rest %s", brief(a), brief(b), brief(low), brief(high), brief(r))
		}
	})
}
