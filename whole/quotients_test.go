package whole_test

import (
	"math/big"
	"testing"

	"tribunal/api"
	"tribunal/whole"
)

// These are the tests of P2.3.

// both holds two answers against what they should be; if one of them is too long, there is an error and neither.
func both(t *testing.T, what string, q, r api.Int, err api.Errno, wantQ, wantR *big.Int) {
	t.Helper()
	if tooLong(wantQ) || tooLong(wantR) {
		fails(t, what, q, err, api.ErrBig)
		fails(t, what, r, err, api.ErrBig)
		return
	}
	is(t, what+"'s quotient", q, err, wantQ)
	is(t, what+"'s rest", r, err, wantR)
}

func checkDivisions(t *testing.T, a, b api.Int) {
	t.Helper()
	if toBig(b).Sign() == 0 {
		checkByZero(t, a, b)
		return
	}
	quo, rem := new(big.Int).QuoRem(toBig(a), toBig(b), new(big.Int))
	q, r, err := whole.Quo(a, b)
	both(t, "Quo", q, r, err, quo, rem)
	q, r, err = whole.DivMod(a, b)
	div, mod := new(big.Int).DivMod(toBig(a), toBig(b), new(big.Int))
	both(t, "DivMod", q, r, err, div, mod)
	low, high := quo, quo
	switch rem.Sign() * toBig(b).Sign() {
	case 1:
		high = new(big.Int).Add(quo, big.NewInt(1))
	case -1:
		low = new(big.Int).Sub(quo, big.NewInt(1))
	}
	q, err = whole.Floor(a, b)
	comesTo(t, "Floor", q, err, low)
	q, err = whole.Ceil(a, b)
	comesTo(t, "Ceil", q, err, high)
}

func checkByZero(t *testing.T, a, b api.Int) {
	t.Helper()
	for what, call := range map[string]func(a, b api.Int) (api.Int, api.Int, api.Errno){"Quo": whole.Quo, "DivMod": whole.DivMod} {
		q, r, err := call(a, b)
		fails(t, what+" by 0", q, err, api.ErrZero)
		fails(t, what+" by 0", r, err, api.ErrZero)
	}
	for what, call := range map[string]func(a, b api.Int) (api.Int, api.Errno){"Floor": whole.Floor, "Ceil": whole.Ceil} {
		q, err := call(a, b)
		fails(t, what+" by 0", q, err, api.ErrZero)
	}
}

// checkSigns is checkDivisions with both signs of both numbers.
func checkSigns(t *testing.T, a, b api.Int) {
	t.Helper()
	checkDivisions(t, a, b)
	checkDivisions(t, turned(a), b)
	checkDivisions(t, a, turned(b))
	checkDivisions(t, turned(a), turned(b))
}

func TestDivisionsOfSmallNumbers(t *testing.T) {
	for a := int64(-30); a <= 30; a++ {
		for b := int64(-12); b <= 12; b++ {
			checkDivisions(t, of(a), of(b))
		}
	}
	for _, c := range [][7]int64{
		{-7, 2, -3, -1, -4, -4, -3}, {-7, -2, 3, -1, 4, 3, 4}, {7, -2, -3, 1, -3, -4, -3}, {7, 2, 3, 1, 3, 3, 4},
		{6, 3, 2, 0, 2, 2, 2}, {-6, 3, -2, 0, -2, -2, -2}, {6, -3, -2, 0, -2, -2, -2}, {-6, -3, 2, 0, 2, 2, 2},
		{1, 5, 0, 1, 0, 0, 1}, {-1, 5, 0, -1, -1, -1, 0}, {1, -5, 0, 1, 0, -1, 0}, {-1, -5, 0, -1, 1, 0, 1}, {0, -5, 0, 0, 0, 0, 0},
	} {
		a, b := of(c[0]), of(c[1])
		q, r, _ := whole.Quo(a, b)
		d, m, _ := whole.DivMod(a, b)
		rest := of(c[0] - c[1]*c[4])
		if !same(q, of(c[2])) || !same(r, of(c[3])) || !same(d, of(c[4])) || !same(m, rest) {
			t.Errorf("%d, %d: %v %v, %v %v", c[0], c[1], q, r, d, m)
		}
		if !same(must(whole.Floor(a, b)), of(c[5])) || !same(must(whole.Ceil(a, b)), of(c[6])) {
			t.Errorf("%d / %d rounded", c[0], c[1])
		}
	}
}

func TestDivisions(t *testing.T) {
	for _, a := range samples() {
		for _, b := range samples() {
			checkDivisions(t, a, b)
		}
	}
	d := &dice{3}
	for range 5000 {
		checkDivisions(t, d.number(d.below(9)), d.number(d.below(6)))
	}
	for range 1000 { // those that come out even, and just not
		b, q := d.number(1+d.below(4)), d.number(d.below(4))
		even := must(whole.Mul(b, q))
		checkDivisions(t, even, b)
		checkDivisions(t, off(even, 1), b)
		checkDivisions(t, off(even, -1), b)
	}
}

func TestDivisionsByZero(t *testing.T) {
	for _, zero := range []api.Int{plus(), minus(), plus(0, 0), minus(0, 0), padded(plus(), 5000)} {
		for _, a := range []api.Int{plus(), of(1), of(-1), most(), least(), turned(least()), pow(3 * mostBits), minus(0)} {
			checkDivisions(t, a, zero)
		}
	}
}

func TestDivisionsAtTheMost(t *testing.T) {
	divisors := []api.Int{of(1), of(2), of(3), plus(top), plus(0, 1), plus(top, top), ones(api.MaxLimbs / 2), pow(mostBits / 2), pow(mostBits - 1)}
	for _, a := range append(divisors, most(), off(most(), -1), least(), off(least(), 1), pow(mostBits+63), off(pow(mostBits+64), -1), pow(mostBits+64)) {
		for _, b := range append(divisors, most(), least()) {
			checkSigns(t, a, b)
		}
	}
	// The quotient cut is the most; rounded away from 0 it is too long.
	a := fromBig(new(big.Int).Add(new(big.Int).Mul(toBig(most()), big.NewInt(7)), big.NewInt(5)))
	checkSigns(t, a, of(7))
	low, err := whole.Floor(a, of(7))
	is(t, "Floor", low, err, toBig(most()))
	high, err := whole.Ceil(a, of(7))
	fails(t, "Ceil", high, err, api.ErrBig)
}

func TestDivisionsOfLongNumbers(t *testing.T) {
	far := pow(mostBits + 6400)
	// Of quotients and rests each may be short where the other is not, and where a and b are long.
	for _, c := range [][2]api.Int{
		{off(far, 3), far}, {off(far, -1), far}, {off(far, -3), off(far, 1)}, {far, least()}, {least(), far}, {of(1), far}, {of(5), least()},
		{far, pow(6400)}, {far, pow(6399)}, {far, pow(6401)}, {off(far, -1), pow(6400)}, {off(far, 1), pow(6464)}, {pow(2*mostBits + 5), of(3)},
	} {
		checkSigns(t, c[0], c[1])
		checkSigns(t, padded(c[0], 3), padded(c[1], 2))
	}
	further := pow(2*mostBits + 6400)
	for _, b := range []api.Int{off(turned(far), -1), turned(pow(mostBits + 6401)), off(far, 1), off(far, -1), off(pow(mostBits+6336), 1), off(pow(mostBits+6335), 1)} {
		checkDivisions(t, further, b)
		checkDivisions(t, off(turned(further), 1), b)
	}
	q, r, err := whole.Quo(off(far, 3), far)
	is(t, "a long one by a long one", q, err, big.NewInt(1))
	is(t, "a long one by a long one", r, err, big.NewInt(3))
	q, r, err = whole.DivMod(of(-1), least())
	is(t, "-1 by the least that is too long", q, err, big.NewInt(-1))
	is(t, "-1 by the least that is too long", r, err, toBig(most()))
	q, r, err = whole.DivMod(of(-1), off(least(), 1))
	fails(t, "-1 by one above it", q, err, api.ErrBig)
	fails(t, "-1 by one above it", r, err, api.ErrBig)
	q, err = whole.Floor(turned(least()), far)
	is(t, "Floor", q, err, big.NewInt(-1))
	q, err = whole.Ceil(turned(least()), far)
	is(t, "Ceil", q, err, new(big.Int))
}

// Numbers just around a multiple, and divisors whose lower limbs make a guess by the highest ones too great.
func TestDivisionsWithHardGuesses(t *testing.T) {
	d := &dice{4}
	for n := range 60 {
		b := d.number(api.MaxLimbs + d.below(4))
		if n%2 == 0 {
			b = ones(api.MaxLimbs)
			b.Mag[api.MaxLimbs-1-n%3] = 1
			b.Mag[api.MaxLimbs-1-n%5] = 0
			b.Mag = append(b.Mag, 1<<d.below(64))
		}
		q := d.number(1 + d.below(3))
		product := fromBig(new(big.Int).Mul(toBig(b), toBig(q)))
		checkDivisions(t, product, b)
		checkDivisions(t, off(product, -1), b)
		checkDivisions(t, off(product, 1), b)
		checkDivisions(t, fromBig(new(big.Int).Add(toBig(product), toBig(off(b, -1)))), b)
	}
	// By one, two and three limbs, and by some more, of which some are 0.
	for range 20 {
		a := d.number(api.MaxLimbs + 1)
		for _, b := range []api.Int{d.number(1), d.number(2), d.number(3), d.number(4), d.number(9), plus(top, top, top, 0, 0, 1), plus(top, top, top, 1), plus(top, 0, 1)} {
			checkDivisions(t, a, b)
		}
	}
}
