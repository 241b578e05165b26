package ratio_test

import (
	"math/big"
	"slices"
	"testing"

	"tribunal/api"
	"tribunal/ratio"
)

// These are the tests of P3.1.

func TestOf(t *testing.T) {
	for _, c := range []struct{ num, den, n, d int64 }{
		{6, -4, -3, 2}, {6, 4, 3, 2}, {-6, 4, -3, 2}, {-6, -4, 3, 2}, {0, 5, 0, 1}, {0, -5, 0, 1}, {0, 1, 0, 1}, {0, -1, 0, 1}, {1, 1, 1, 1}, {1, -1, -1, 1},
		{7, 7, 1, 1}, {-7, 7, -1, 1}, {1, 2, 1, 2}, {12, 18, 2, 3}, {18, -12, -3, 2}, {100, 10, 10, 1}, {1 << 62, 1 << 61, 2, 1}, {-1 << 63, -1 << 63, 1, 1},
	} {
		got, err := ratio.Of(intOf(big.NewInt(c.num)), intOf(big.NewInt(c.den)))
		is(t, "Of", got, err, big.NewRat(c.n, c.d))
	}
}

func TestOfAnyForms(t *testing.T) {
	list := []api.Int{
		plus(), minus(), plus(0), minus(0, 0), plus(1), minus(1, 0), plus(2), minus(3), plus(4, 0, 0), minus(6), plus(12), plus(top), minus(top, 0),
		plus(0, 1), minus(0, 1), plus(top, top), plus(0, 0, 12), minus(6, 6), {Mag: ones(7)}, {Neg: true, Mag: ones(5)}, {Mag: padded(pow(200), 1200)},
		{Mag: most()}, {Neg: true, Mag: padded(most(), 1)}, {Mag: pow(mostBits - 1)},
	}
	d := &dice{1}
	for range 60 {
		list = append(list, d.number(d.below(6)))
	}
	for _, num := range list {
		for _, den := range list {
			got, err := ratio.Of(num, den)
			if bigInt(den).Sign() == 0 {
				fails(t, "Of", got, err, api.ErrZero)
			} else {
				is(t, "Of", got, err, new(big.Rat).SetFrac(bigInt(num), bigInt(den)))
			}
		}
	}
}

func TestOfAndWholeOfLongOnes(t *testing.T) {
	one := plus(1)
	for _, mag := range []api.Nat{least(), padded(least(), 3), off(least(), 7), ones(api.MaxRat + 1), ones(api.MaxLimbs), ones(api.MaxLimbs + 1), pow(64 * 9000)} {
		for _, a := range []api.Int{{Mag: mag}, {Neg: true, Mag: mag}} {
			for _, b := range []api.Int{one, minus(2), plus(), {Mag: most()}, a} {
				got, err := ratio.Of(b, a)
				fails(t, "Of with a long denominator", got, err, api.ErrBig)
				got, err = ratio.Of(a, b)
				if len(b.Mag) == 0 {
					fails(t, "Of a long one by 0", got, err, api.ErrZero)
				} else {
					fails(t, "Of with a long numerator", got, err, api.ErrBig)
				}
			}
			got, err := ratio.Whole(a)
			fails(t, "Whole of a long one", got, err, api.ErrBig)
		}
	}
	for _, zero := range []api.Int{plus(), minus(), plus(0, 0), minus(0)} {
		got, err := ratio.Of(one, zero)
		fails(t, "Of by 0", got, err, api.ErrZero)
		got, err = ratio.Of(zero, zero)
		fails(t, "Of 0 by 0", got, err, api.ErrZero)
	}
}

func TestWhole(t *testing.T) {
	for _, a := range []api.Int{
		plus(), minus(), minus(0, 0), plus(1), minus(1), plus(5, 0), minus(7, 0, 0), plus(top), minus(0, 1), {Mag: ones(9)}, {Mag: most()}, {Neg: true, Mag: padded(most(), 4)},
	} {
		got, err := ratio.Whole(a)
		is(t, "Whole", got, err, new(big.Rat).SetInt(bigInt(a)))
		if len(got.Den) != 1 || got.Den[0] != 1 {
			t.Errorf("Whole: the denominator is %v", got.Den)
		}
	}
}

func checkRight(t *testing.T, a api.Rat) {
	t.Helper()
	if got, want := ratio.Right(a), isRight(a); got != want {
		t.Errorf("Right(%s), of %d and %d limbs: %t", brief(a), len(a.Num.Mag), len(a.Den), got)
	}
}

func TestRight(t *testing.T) {
	for _, a := range slices.Concat(samples(), greats(), long(), none()) {
		checkRight(t, a)
	}
	for _, c := range []struct {
		a    api.Rat
		want bool
	}{
		{ratOf(0, 1), true}, {ratOf(1, 1), true}, {ratOf(-1, 1), true}, {ratOf(1, 2), true}, {ratOf(-3, 2), true}, {by(plus(0, 1), api.Nat{1, 1}), true},
		{api.Rat{}, false}, {ratOf(1, 0), false}, {ratOf(0, 0), false}, {ratOf(0, 2), false}, {ratOf(2, 2), false}, {ratOf(4, 2), false}, {ratOf(-6, 4), false},
		{by(minus(), api.Nat{1}), false}, {by(plus(0), api.Nat{1}), false}, {by(minus(0), api.Nat{1}), false}, {by(plus(1, 0), api.Nat{1}), false},
		{by(plus(1), api.Nat{1, 0}), false}, {by(plus(1), api.Nat{2, 0}), false}, {by(plus(), api.Nat{0}), false}, {by(plus(1), api.Nat{0, 0}), false},
	} {
		if got := ratio.Right(c.a); got != c.want {
			t.Errorf("Right(%v): %t", c.a, got)
		}
	}
	d := &dice{2}
	for range 3000 {
		checkRight(t, d.fraction(5))
	}
}

// Numbers longer than layer 1 takes are right or not, too.
func TestRightOfLongOnes(t *testing.T) {
	d, over := &dice{3}, api.MaxLimbs+1
	for _, c := range [][2]int{{over, over}, {over + 2, api.MaxLimbs}, {over, 2 * api.MaxRat}, {over, 1}, {over, api.MaxRat}, {20000, 2}, {over + 1, over}, {over, over + 7}} {
		a, b := d.nat(c[0]), d.nat(c[1])
		a[c[0]-1], b[c[1]-1] = 1+d.roll()>>1, 1+d.roll()>>1
		checkRight(t, by(api.Int{Mag: a}, b))
		checkRight(t, by(api.Int{Neg: true, Mag: b}, a))
		b[0] |= 1
		for _, divisor := range []api.Nat{{2}, {3}, {top}, {0, 1}, {1, 1}, append(d.nat(7), 5)} {
			if ratio.Right(by(api.Int{Mag: times(a, divisor)}, times(b, divisor))) {
				t.Errorf("Right of %d and %d limbs with a common divisor of %d", c[0], c[1], len(divisor))
			}
		}
	}
	a, b := d.nat(over), times(d.nat(3), ones(api.MaxLimbs-1))
	for _, divisor := range []api.Nat{a, b} {
		for _, n := range []uint64{1, 2, 3, 1 << 63, top} {
			if ratio.Right(by(api.Int{Mag: times(divisor, api.Nat{n})}, divisor)) || ratio.Right(by(api.Int{Mag: divisor}, times(divisor, api.Nat{top, n}))) {
				t.Errorf("Right of a fraction with a common divisor that is long itself")
			}
			if !ratio.Right(by(api.Int{Mag: off(times(divisor, api.Nat{n}), 1)}, divisor)) || !ratio.Right(by(api.Int{Mag: divisor}, off(times(divisor, api.Nat{n}), -1))) {
				t.Errorf("not Right: a multiple less or more 1, and what it is a multiple of")
			}
		}
	}
}

func TestRightOfLongOnesOfSomeForms(t *testing.T) {
	for _, n := range []int{api.MaxLimbs, api.MaxLimbs + 1, 2 * api.MaxLimbs, 20000} {
		for _, c := range []struct {
			a    api.Rat
			want bool
		}{
			{by(api.Int{Mag: ones(n)}, api.Nat{1}), true}, {by(plus(1), ones(n)), true}, {by(api.Int{Mag: ones(n)}, pow(64*n)), true}, {by(api.Int{Mag: pow(64 * n)}, api.Nat{3}), true},
			{by(api.Int{Mag: ones(n)}, ones(n)), false}, {by(api.Int{Mag: ones(n)}, ones(1)), false}, {by(api.Int{Mag: ones(n)}, api.Nat{3}), false}, {by(api.Int{Mag: pow(64 * n)}, api.Nat{2}), false},
			{by(plus(), ones(n)), false}, {by(plus(), pow(64*n)), false}, {by(api.Int{Neg: true}, ones(n)), false}, {by(api.Int{Mag: ones(n)}, nil), false}, {by(plus(5), ones(n)), false},
			{by(api.Int{Mag: ones(n)}, ones(n-1)), false}, {by(api.Int{Mag: ones(n)}, off(pow(64*(n-1)), 1)), n%2 == 1}, {by(api.Int{Mag: off(ones(n), -1)}, ones(n)), true},
			{by(api.Int{Mag: padded(ones(n), 1)}, api.Nat{1}), false}, {by(plus(1), padded(ones(n), 1)), false}, {by(api.Int{Mag: times(ones(n), api.Nat{7})}, ones(n)), false},
			{by(api.Int{Mag: pow(64*n + 5)}, off(pow(64*n+5), 2)), false}, {by(api.Int{Mag: off(pow(64*n+5), 1)}, off(pow(64*n+5), -1)), true},
		} {
			if got := ratio.Right(c.a); got != c.want {
				t.Errorf("Right(%s), of %d and %d limbs: %t", brief(c.a), len(c.a.Num.Mag), len(c.a.Den), got)
			}
		}
	}
}
