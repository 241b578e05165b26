package whole_test

import (
	"math/big"
	"testing"

	"tribunal/api"
	"tribunal/whole"
)

// These are the tests of P2.4.

func checkGcd(t *testing.T, list ...api.Int) {
	t.Helper()
	want := new(big.Int)
	for _, a := range list {
		want.GCD(nil, nil, want, new(big.Int).Abs(toBig(a)))
	}
	got, err := whole.Gcd(list...)
	is(t, "Gcd", got, err, want)
}

func TestGcd(t *testing.T) {
	checkGcd(t)
	checkGcd(t, []api.Int{}...)
	checkGcd(t, minus(), plus(0, 0), minus(0))
	checkGcd(t, minus(0, 4, 0))
	checkGcd(t, of(12), of(-18))
	checkGcd(t, of(-12), of(-18), of(0), of(27))
	checkGcd(t, of(6), of(10), of(15))
	for _, a := range samples() {
		checkGcd(t, a)
		for _, b := range samples() {
			checkGcd(t, a, b)
		}
	}
	d := &dice{5}
	for range 500 {
		common := d.number(1 + d.below(3))
		var list []api.Int
		for range d.below(6) {
			list = append(list, must(whole.Mul(common, d.number(d.below(4)))))
		}
		checkGcd(t, list...)
	}
}

func TestGcdAtTheMost(t *testing.T) {
	checkGcd(t, most(), turned(most()), padded(most(), 2))
	checkGcd(t, turned(most()), of(0))
	checkGcd(t, most(), pow(mostBits-1), of(3))
	checkGcd(t, most(), turned(ones(api.MaxLimbs/2)))
	for _, long := range []api.Int{least(), turned(least()), padded(least(), 2), pow(4 * mostBits)} {
		for _, list := range [][]api.Int{{long}, {of(1), long}, {long, of(1)}, {of(0), long, of(0)}, {of(1), of(1), most(), long}, {long, long}, {minus(0, 0), long}} {
			got, err := whole.Gcd(list...)
			fails(t, "Gcd with a long one", got, err, api.ErrBig)
		}
	}
}

// euclid is g, x and y as the chapter has them: of amounts, by rows.
func euclid(a, b *big.Int) (*big.Int, *big.Int, *big.Int) {
	zero, one := new(big.Int), big.NewInt(1)
	first, second := [3]*big.Int{new(big.Int).Abs(a), one, zero}, [3]*big.Int{new(big.Int).Abs(b), zero, one}
	for second[0].Sign() != 0 {
		q := new(big.Int).Quo(first[0], second[0])
		var next [3]*big.Int
		for i := range next {
			next[i] = new(big.Int).Sub(first[i], new(big.Int).Mul(q, second[i]))
		}
		first, second = second, next
	}
	x, y := new(big.Int).Set(first[1]), new(big.Int).Set(first[2])
	if a.Sign() < 0 {
		x.Neg(x)
	}
	if b.Sign() < 0 {
		y.Neg(y)
	}
	return first[0], x, y
}

func checkExtended(t *testing.T, a, b api.Int) {
	t.Helper()
	wantG, wantX, wantY := euclid(toBig(a), toBig(b))
	g, x, y, err := whole.Extended(a, b)
	is(t, "g", g, err, wantG)
	is(t, "x", x, err, wantX)
	is(t, "y", y, err, wantY)
}

func TestExtended(t *testing.T) {
	for _, c := range [][5]int64{
		{12, -18, 6, -1, -1}, {0, 0, 0, 1, 0}, {-5, 0, 5, -1, 0}, {0, -5, 5, 0, -1}, {5, 5, 5, 0, 1}, {-5, 5, 5, 0, 1}, {1, 0, 1, 1, 0}, {1, 1, 1, 0, 1},
		{4, 2, 2, 0, 1}, {2, 4, 2, 1, 0}, {240, 46, 2, -9, 47}, {46, 240, 2, 47, -9},
	} {
		g, x, y, err := whole.Extended(of(c[0]), of(c[1]))
		if err != api.OK || !same(g, of(c[2])) || !same(x, of(c[3])) || !same(y, of(c[4])) {
			t.Errorf("Extended(%d, %d): %v, %v, %v, error %d", c[0], c[1], g, x, y, err)
		}
	}
	for a := int64(-20); a <= 20; a++ {
		for b := int64(-20); b <= 20; b++ {
			checkExtended(t, of(a), of(b))
		}
	}
	for _, a := range samples() {
		for _, b := range samples() {
			checkExtended(t, a, b)
		}
	}
	d := &dice{6}
	for range 3000 {
		a, b, common := d.number(d.below(7)), d.number(d.below(7)), d.number(1+d.below(2))
		checkExtended(t, a, b)
		checkExtended(t, must(whole.Mul(a, common)), must(whole.Mul(b, common)))
	}
}

// Fibonacci's numbers take the most steps; in the others steps with great quotients come between, so that the highest digits alone never are enough for long.
func TestExtendedOfManySteps(t *testing.T) {
	a, b := big.NewInt(1), big.NewInt(1)
	for i := range 2000 {
		a.Add(a, b)
		a, b = b, a
		if i < 200 || i%50 == 0 {
			checkExtended(t, fromBig(a), fromBig(b))
			checkExtended(t, fromBig(b), turned(fromBig(a)))
		}
	}
	d := &dice{7}
	for range 200 {
		a, b := big.NewInt(0), toBig(d.number(1+d.below(2)))
		for range 60 {
			q := new(big.Int).Rsh(toBig(plus(d.roll())), uint(d.below(64)))
			a.Add(a, q.Mul(q, b))
			a, b = b, a
		}
		checkExtended(t, fromBig(a), fromBig(b))
		checkExtended(t, fromBig(b), fromBig(a))
	}
	// Near one another in all of their highest digits.
	for n := range 70 {
		checkExtended(t, off(pow(400+n), 1), pow(400+n))
		checkExtended(t, pow(62), off(pow(n), -1))
		checkExtended(t, off(pow(64+n), -1), off(pow(62), int64(n-35)))
	}
}

// Of the most limbs, their highest bit set, and yet of few steps: multiples of one great number by Fibonacci's.
func TestExtendedOfGreatMultiples(t *testing.T) {
	d := &dice{12}
	for n := range 80 {
		a, b := int64(1), int64(1)
		for a < 1<<62>>n {
			a, b = a+b, a
		}
		common, _ := new(big.Int).QuoRem(toBig(most()), big.NewInt(a), new(big.Int))
		common.Sub(common, toBig(plus(d.roll())))
		first := fromBig(new(big.Int).Mul(common, big.NewInt(a)))
		second := fromBig(new(big.Int).Mul(common, big.NewInt(b)))
		checkExtended(t, first, turned(second))
		checkExtended(t, second, off(first, -1))
	}
}

func TestExtendedAtTheMost(t *testing.T) {
	for _, c := range [][2]api.Int{
		{most(), of(1)}, {of(-1), most()}, {most(), most()}, {turned(most()), of(0)}, {of(0), turned(most())}, {most(), off(most(), -1)},
		{most(), pow(mostBits - 1)}, {pow(mostBits - 1), padded(most(), 4)}, {turned(most()), ones(api.MaxLimbs / 2)}, {off(pow(mostBits-1), -1), ones(api.MaxLimbs - 1)},
	} {
		checkExtended(t, c[0], c[1])
	}
	for _, long := range []api.Int{least(), turned(least()), padded(least(), 2), pow(4 * mostBits)} {
		for _, c := range [][2]api.Int{{long, of(1)}, {of(1), long}, {long, long}, {of(0), long}, {long, of(0)}, {most(), long}} {
			g, x, y, err := whole.Extended(c[0], c[1])
			fails(t, "Extended of a long one", g, err, api.ErrBig)
			fails(t, "Extended of a long one", x, err, api.ErrBig)
			fails(t, "Extended of a long one", y, err, api.ErrBig)
		}
	}
}

// Of numbers of the most limbs that look like any: there is one pair x, y alone with amounts of at most half of b / g and of a / g, and it is that of the rows.
func TestExtendedOfGreatNumbers(t *testing.T) {
	d := &dice{8}
	for _, c := range []struct {
		limbs  int
		common api.Int
	}{{api.MaxLimbs, of(1)}, {1000, d.number(700)}} {
		a := must(whole.Mul(d.number(c.limbs), c.common))
		b := must(whole.Mul(d.number(c.limbs), c.common))
		g, x, y, err := whole.Extended(a, b)
		wantG := new(big.Int).GCD(nil, nil, new(big.Int).Abs(toBig(a)), new(big.Int).Abs(toBig(b)))
		is(t, "g", g, err, wantG)
		sum := new(big.Int).Mul(toBig(a), toBig(x))
		sum.Add(sum, new(big.Int).Mul(toBig(b), toBig(y)))
		is(t, "a x + b y", fromBig(sum), err, wantG)
		checkHalf(t, "x", x, b, wantG)
		checkHalf(t, "y", y, a, wantG)
	}
}

func checkHalf(t *testing.T, what string, got, of api.Int, g *big.Int) {
	t.Helper()
	twice := new(big.Int).Mul(toBig(got), g)
	if twice.Lsh(twice, 1).CmpAbs(toBig(of)) > 0 {
		t.Errorf("%s is above half of it", what)
	}
}
