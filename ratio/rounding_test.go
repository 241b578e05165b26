package ratio_test

import (
	"math/big"
	"slices"
	"testing"

	"tribunal/api"
	"tribunal/ratio"
)

// These are the tests of P3.3.

func checkRounding(t *testing.T, a api.Rat) {
	t.Helper()
	// The rest of DivMod is not below 0, and the denominator is above: so its quotient is rounded down.
	low, rest := new(big.Int).DivMod(bigInt(a.Num), bigNat(a.Den), new(big.Int))
	high := new(big.Int).Set(low)
	if rest.Sign() != 0 {
		high.Add(high, big.NewInt(1))
	}
	floor, err := ratio.Floor(a)
	if err != api.OK {
		t.Errorf("Floor(%s): error %d", brief(a), err)
	}
	isInt(t, "Floor of "+brief(a), floor, low)
	ceil, err := ratio.Ceil(a)
	if err != api.OK {
		t.Errorf("Ceil(%s): error %d", brief(a), err)
	}
	isInt(t, "Ceil of "+brief(a), ceil, high)
	n, ok := ratio.Int(a)
	switch {
	case ok != (rest.Sign() == 0):
		t.Errorf("Int(%s): %t", brief(a), ok)
	case ok:
		isInt(t, "Int of "+brief(a), n, low)
	case !isZero(n):
		t.Errorf("Int(%s): beside false %v", brief(a), n)
	}
}

func TestRounding(t *testing.T) {
	for _, a := range slices.Concat(samples(), greats()) {
		checkRounding(t, a)
	}
	for num := int64(-25); num <= 25; num++ {
		for den := int64(1); den <= 8; den++ {
			a := ratOf(num, den)
			checkRounding(t, a)
			checkRounding(t, grown(a, 6, 2))
		}
	}
	d := &dice{6}
	for range 3000 {
		checkRounding(t, d.fraction(6))
	}
}

// On both sides of whole numbers, great ones too.
func TestRoundingNearWholeNumbers(t *testing.T) {
	for _, den := range []api.Nat{{1}, {2}, {3}, {top}, {0, 1}, ones(3), pow(300), pow(mostBits / 2)} {
		for _, n := range []api.Nat{{}, {1}, {2}, {top}, {0, 1}, ones(2), pow(299), ones(api.MaxRat / 2)} {
			for _, more := range []int64{-2, -1, 0, 1, 2} {
				num := new(big.Int).Add(bigNat(times(n, den)), big.NewInt(more))
				if num.BitLen() <= mostBits {
					checkRounding(t, by(intOf(num), den))
					checkRounding(t, by(intOf(num.Neg(num)), padded(den, 1)))
				}
			}
		}
	}
}

func TestRoundingOfSome(t *testing.T) {
	for _, c := range []struct{ num, den, floor, ceil int64 }{
		{-3, 2, -2, -1}, {3, 2, 1, 2}, {-1, 2, -1, 0}, {1, 2, 0, 1}, {0, 7, 0, 0}, {4, 2, 2, 2}, {-4, 2, -2, -2}, {-6, 4, -2, -1}, {1, 1000, 0, 1}, {-1, 1000, -1, 0}, {-7, 7, -1, -1},
	} {
		a := ratOf(c.num, c.den)
		floor, _ := ratio.Floor(a)
		isInt(t, "Floor", floor, big.NewInt(c.floor))
		ceil, _ := ratio.Ceil(a)
		isInt(t, "Ceil", ceil, big.NewInt(c.ceil))
		if n, ok := ratio.Int(a); ok != (c.floor == c.ceil) || ok && bigInt(n).Cmp(big.NewInt(c.floor)) != 0 {
			t.Errorf("Int(%d/%d): %v, %t", c.num, c.den, n, ok)
		}
	}
	for _, zero := range []api.Rat{by(minus(), api.Nat{3}), by(minus(0, 0), api.Nat{1, 0})} {
		if n, ok := ratio.Int(zero); !ok || !isZero(n) {
			t.Errorf("Int of 0: %v, %t", n, ok)
		}
		checkRounding(t, zero)
	}
}

func TestRoundingOfNoneAndLongOnes(t *testing.T) {
	check := func(a api.Rat, want api.Errno) {
		t.Helper()
		if n, err := ratio.Floor(a); err != want || !isZero(n) {
			t.Errorf("Floor(%s): %v, error %d", brief(a), n, err)
		}
		if n, err := ratio.Ceil(a); err != want || !isZero(n) {
			t.Errorf("Ceil(%s): %v, error %d", brief(a), n, err)
		}
		if n, ok := ratio.Int(a); ok || !isZero(n) {
			t.Errorf("Int(%s): %v, %t", brief(a), n, ok)
		}
	}
	for _, a := range none() {
		check(a, api.ErrZero)
	}
	for _, a := range long() {
		check(a, api.ErrBig)
	}
}
