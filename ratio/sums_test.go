package ratio_test

import (
	"math/big"
	"slices"
	"testing"

	"tribunal/api"
	"tribunal/ratio"
)

// These are the tests of P3.2.

func checkTwo(t *testing.T, a, b api.Rat) {
	t.Helper()
	x, y := bigRat(a), bigRat(b)
	got, err := ratio.Add(a, b)
	comesTo(t, "Add", got, err, new(big.Rat).Add(x, y))
	got, err = ratio.Sub(a, b)
	comesTo(t, "Sub", got, err, new(big.Rat).Sub(x, y))
	got, err = ratio.Mul(a, b)
	comesTo(t, "Mul", got, err, new(big.Rat).Mul(x, y))
	got, err = ratio.Quo(a, b)
	if y.Sign() == 0 {
		fails(t, "Quo by 0", got, err, api.ErrZero)
	} else {
		comesTo(t, "Quo", got, err, new(big.Rat).Quo(x, y))
	}
	if order, err := ratio.Cmp(a, b); order != x.Cmp(y) || err != api.OK {
		t.Errorf("Cmp(%s, %s): %d, error %d", brief(a), brief(b), order, err)
	}
}

func checkOne(t *testing.T, a api.Rat) {
	t.Helper()
	x := bigRat(a)
	got, err := ratio.Neg(a)
	is(t, "Neg", got, err, new(big.Rat).Neg(x))
	got, err = ratio.Add(a)
	is(t, "Add of one", got, err, x)
	got, err = ratio.Mul(a)
	is(t, "Mul of one", got, err, x)
}

func TestOfTwo(t *testing.T) {
	for _, a := range samples() {
		checkOne(t, a)
		for _, b := range samples() {
			checkTwo(t, a, b)
		}
	}
	d := &dice{4}
	for range 3000 {
		a, b := d.fraction(6), d.fraction(6)
		checkOne(t, a)
		checkTwo(t, a, b)
		checkTwo(t, a, a)
	}
}

func TestOfTwoAtTheMost(t *testing.T) {
	for _, a := range greats() {
		checkOne(t, a)
	}
	list := greats()
	for i, a := range list {
		for k := i % 3; k < len(list); k += 3 {
			checkTwo(t, a, list[k])
		}
	}
}

func TestOfSome(t *testing.T) {
	half, third, sixth := ratOf(1, 2), ratOf(1, 3), ratOf(1, 6)
	got, err := ratio.Add(half, third, sixth)
	is(t, "1/2 + 1/3 + 1/6", got, err, big.NewRat(1, 1))
	got, err = ratio.Sub(half, third)
	is(t, "1/2 - 1/3", got, err, big.NewRat(1, 6))
	got, err = ratio.Mul(half, ratOf(-4, 3), ratOf(9, 2))
	is(t, "1/2 . -4/3 . 9/2", got, err, big.NewRat(-3, 1))
	got, err = ratio.Quo(half, ratOf(-2, 6))
	is(t, "1/2 by -2/6", got, err, big.NewRat(-3, 2))
	got, err = ratio.Quo(ratOf(0, 3), ratOf(-5, 7))
	is(t, "0 by -5/7", got, err, new(big.Rat))
	got, err = ratio.Neg(by(minus(0), api.Nat{4}))
	is(t, "Neg of -0/4", got, err, new(big.Rat))
	got, err = ratio.Neg(ratOf(6, 4))
	is(t, "Neg of 6/4", got, err, big.NewRat(-3, 2))
	for _, zero := range []api.Rat{ratOf(0, 1), ratOf(0, 9), by(minus(), api.Nat{3}), by(minus(0, 0), api.Nat{0, 1, 0})} {
		got, err = ratio.Quo(half, zero)
		fails(t, "Quo by 0", got, err, api.ErrZero)
		got, err = ratio.Quo(zero, zero)
		fails(t, "Quo of 0 by 0", got, err, api.ErrZero)
	}
}

func TestCmpOfSome(t *testing.T) {
	huge, less := by(api.Int{Mag: most()}, off(most(), -1)), by(api.Int{Mag: off(most(), -1)}, off(most(), -2))
	for _, c := range []struct {
		a, b api.Rat
		want int
	}{
		{ratOf(1, 3), ratOf(2, 6), 0}, {ratOf(1, 3), ratOf(1, 2), -1}, {ratOf(1, 2), ratOf(1, 3), 1}, {ratOf(-1, 3), ratOf(-1, 2), 1}, {ratOf(-1, 2), ratOf(1, 3), -1},
		{ratOf(0, 5), by(minus(0), api.Nat{7, 0}), 0}, {ratOf(-1, 9), ratOf(0, 1), -1}, {ratOf(0, 1), ratOf(-1, 9), 1}, {ratOf(3, 1), ratOf(5, 2), 1},
		{huge, less, -1}, {less, huge, 1}, {turned(huge), turned(less), 1}, {huge, grown(huge, 1, 3), 0}, {huge, ratOf(1, 1), 1},
	} {
		if got, err := ratio.Cmp(c.a, c.b); got != c.want || err != api.OK {
			t.Errorf("Cmp(%s, %s): %d, error %d", brief(c.a), brief(c.b), got, err)
		}
	}
}

func TestNoneAndMany(t *testing.T) {
	for _, l := range [][]api.Rat{nil, {}} {
		got, err := ratio.Add(l...)
		is(t, "Add()", got, err, new(big.Rat))
		got, err = ratio.Mul(l...)
		is(t, "Mul()", got, err, big.NewRat(1, 1))
	}
	d, list := &dice{5}, []api.Rat(nil)
	sum, product := new(big.Rat), big.NewRat(1, 1)
	for n := range 60 {
		a := d.fraction(3)
		if n < 50 && bigInt(a.Num).Sign() == 0 {
			continue
		}
		list = append(list, a)
		sum.Add(sum, bigRat(a))
		product.Mul(product, bigRat(a))
		got, err := ratio.Add(list...)
		is(t, "Add", got, err, sum)
		got, err = ratio.Mul(list...)
		is(t, "Mul", got, err, product)
		if n%7 == 0 {
			slices.Reverse(list)
		}
	}
	got, err := ratio.Add(slices.Repeat([]api.Rat{ratOf(-2, 6)}, 1000)...)
	is(t, "Add of 1000", got, err, big.NewRat(-1000, 3))
	got, err = ratio.Mul(slices.Repeat([]api.Rat{ratOf(-2, 4)}, 1001)...)
	is(t, "Mul of 1001", got, err, new(big.Rat).SetFrac(big.NewInt(-1), bigNat(pow(1001))))
}

// A sum is long where a part of it is, whatever comes behind: the order counts.
func TestSumsOfLongParts(t *testing.T) {
	great, one, less := by(api.Int{Mag: most()}, api.Nat{1}), ratOf(1, 1), ratOf(-1, 1)
	p, q := by(plus(1), off(pow(mostBits/2), 1)), by(plus(1), off(pow(mostBits/2), -1)) // whose product has MaxRat limbs just so
	r := by(plus(1), off(pow(mostBits/2), 3))
	for _, c := range []struct {
		what string
		l    []api.Rat
		want *big.Rat // nil: a part is long
	}{
		{"most, 1, -1", []api.Rat{great, one, less}, nil},
		{"most, -1, 1", []api.Rat{great, less, one}, bigRat(great)},
		{"1, -1, most", []api.Rat{one, less, great}, bigRat(great)},
		{"1, most, -1", []api.Rat{one, great, less}, nil},
		{"-1, most, 1", []api.Rat{less, great, one}, bigRat(great)},
		{"-most, -1, 1", []api.Rat{turned(great), less, one}, nil},
		{"-most, -1, most", []api.Rat{turned(great), less, great}, nil},
		{"most, -most, 1", []api.Rat{great, turned(great), one}, big.NewRat(1, 1)},
		{"1/2, most", []api.Rat{ratOf(1, 2), great}, nil},
		{"1/2, most, -1/2", []api.Rat{ratOf(1, 2), great, ratOf(-1, 2)}, nil},
		{"p, q", []api.Rat{p, q}, new(big.Rat).Add(bigRat(p), bigRat(q))},
		{"p, r", []api.Rat{p, r}, nil},
		{"p, r, -r", []api.Rat{p, r, turned(r)}, nil},
		{"r, -r, p", []api.Rat{r, turned(r), p}, bigRat(p)},
		{"p, -p, r, 0", []api.Rat{p, turned(p), r, ratOf(0, 7)}, bigRat(r)},
		{"most / 3, most / 3, most / 3", []api.Rat{ratOfThird(), ratOfThird(), ratOfThird()}, bigRat(great)},
	} {
		got, err := ratio.Add(c.l...)
		if c.want == nil {
			fails(t, "Add of "+c.what, got, err, api.ErrBig)
		} else {
			is(t, "Add of "+c.what, got, err, c.want)
		}
	}
}

// ratOfThird is a third of most, which 3 divides.
func ratOfThird() api.Rat { return by(api.Int{Mag: most()}, api.Nat{3}) }

func TestProductsOfLongParts(t *testing.T) {
	great, tiny, two, half, zero := by(api.Int{Mag: most()}, api.Nat{1}), by(plus(1), most()), ratOf(2, 1), ratOf(1, 2), ratOf(0, 3)
	root := by(plus(1), pow(mostBits/2))
	for _, c := range []struct {
		what string
		l    []api.Rat
		want *big.Rat
	}{
		{"most, 2", []api.Rat{great, two}, nil},
		{"most, 2, 1/2", []api.Rat{great, two, half}, nil},
		{"most, 1/2, 2", []api.Rat{great, half, two}, bigRat(great)},
		{"2, 1/2, -most", []api.Rat{two, half, turned(great)}, bigRat(turned(great))},
		{"most, 2, 0", []api.Rat{great, two, zero}, nil},
		{"most, 0, 2", []api.Rat{great, zero, two}, new(big.Rat)},
		{"0, most, most", []api.Rat{zero, great, great}, new(big.Rat)},
		{"most, 1/most", []api.Rat{great, tiny}, big.NewRat(1, 1)},
		{"most, most, 1/most", []api.Rat{great, great, tiny}, nil},
		{"most, 1/most, most", []api.Rat{great, tiny, great}, bigRat(great)},
		{"1/most, 1/2", []api.Rat{tiny, half}, nil},
		{"1/most, 1/2, 0", []api.Rat{tiny, half, zero}, nil},
		{"2^-32768, 2^-32768", []api.Rat{root, root}, nil},
		{"2^-32768, 2^-32767", []api.Rat{root, by(plus(1), pow(mostBits/2-1))}, new(big.Rat).SetFrac(big.NewInt(1), bigNat(pow(mostBits-1)))},
	} {
		got, err := ratio.Mul(c.l...)
		if c.want == nil {
			fails(t, "Mul of "+c.what, got, err, api.ErrBig)
		} else {
			is(t, "Mul of "+c.what, got, err, c.want)
		}
	}
	got, err := ratio.Quo(great, half)
	fails(t, "most by 1/2", got, err, api.ErrBig)
	got, err = ratio.Quo(half, great)
	fails(t, "1/2 by most", got, err, api.ErrBig)
	got, err = ratio.Quo(great, turned(great))
	is(t, "most by -most", got, err, big.NewRat(-1, 1))
	got, err = ratio.Quo(tiny, turned(tiny))
	is(t, "1/most by -1/most", got, err, big.NewRat(-1, 1))
	got, err = ratio.Sub(great, ratOf(-1, 1))
	fails(t, "most less -1", got, err, api.ErrBig)
	got, err = ratio.Sub(great, great)
	is(t, "most less most", got, err, new(big.Rat))
}
