package whole_test

import (
	"math/big"
	"slices"
	"testing"

	"tribunal/api"
	"tribunal/whole"
)

// These are the tests of P2.2.

func checkSums(t *testing.T, a, b api.Int) {
	t.Helper()
	x, y := toBig(a), toBig(b)
	got, err := whole.Add(a, b)
	comesTo(t, "Add", got, err, new(big.Int).Add(x, y))
	got, err = whole.Sum(a, b)
	comesTo(t, "Sum", got, err, new(big.Int).Add(x, y))
	got, err = whole.Sub(a, b)
	comesTo(t, "Sub", got, err, new(big.Int).Sub(x, y))
	got, err = whole.Mul(a, b)
	comesTo(t, "Mul", got, err, new(big.Int).Mul(x, y))
}

func TestOfTwo(t *testing.T) {
	list := append(samples(), greats()...)
	for _, a := range list {
		for _, b := range list {
			checkSums(t, a, b)
		}
	}
	d := &dice{1}
	for range 3000 {
		checkSums(t, d.number(d.below(8)), d.number(d.below(8)))
	}
}

func TestSumsAtTheMost(t *testing.T) {
	for _, n := range []int64{-2, -1, 0, 1, 2} {
		for _, a := range []api.Int{most(), turned(most()), least(), turned(least())} {
			checkSums(t, a, of(n))
			checkSums(t, of(n), a)
			for _, m := range []int64{-2, -1, 0, 1, 2} {
				checkSums(t, off(a, m), off(least(), n))
				checkSums(t, off(a, m), off(turned(least()), n))
			}
		}
	}
	// Far above the most, and yet near one another.
	far := pow(3 * mostBits)
	checkSums(t, far, turned(off(far, -7)))
	checkSums(t, turned(far), off(far, -7))
	got, err := whole.Sub(far, off(far, 9))
	is(t, "Sub of long ones", got, err, big.NewInt(-9))
	got, err = whole.Sub(far, far)
	is(t, "Sub of a long one from itself", got, err, new(big.Int))
	got, err = whole.Add(padded(most(), 9), minus(0, 0))
	is(t, "Add of 0 to the most", got, err, toBig(most()))
	got, err = whole.Add(least(), minus(1))
	is(t, "Add", got, err, toBig(most()))
}

func TestSumOfMany(t *testing.T) {
	got, err := whole.Sum()
	is(t, "Sum()", got, err, new(big.Int))
	got, err = whole.Sum([]api.Int{}...)
	is(t, "Sum of an empty list", got, err, new(big.Int))
	got, err = whole.Sum(minus(), plus(0, 0), minus(0))
	is(t, "Sum of zeros", got, err, new(big.Int))
	got, err = whole.Sum(minus(7, 0, 3, 0))
	is(t, "Sum of one", got, err, toBig(minus(7, 0, 3)))
	got, err = whole.Sum(least())
	fails(t, "Sum of a long one", got, err, api.ErrBig)
	want := new(big.Int)
	d, list := &dice{2}, []api.Int(nil)
	for n := range 300 {
		a := d.number(d.below(6))
		list = append(list, a)
		want.Add(want, toBig(a))
		got, err = whole.Sum(list...)
		is(t, "Sum", got, err, want)
		if n%10 == 0 {
			slices.Reverse(list)
		}
	}
	got, err = whole.Sum(slices.Repeat([]api.Int{minus(top, top)}, 1000)...)
	is(t, "Sum of 1000", got, err, new(big.Int).Mul(toBig(minus(top, top)), big.NewInt(1000)))
}

func TestSumOfPartsThatAreTooLong(t *testing.T) {
	got, err := whole.Sum(most(), of(1), of(-1))
	is(t, "Sum", got, err, toBig(most()))
	got, err = whole.Sum(most(), of(1))
	fails(t, "Sum", got, err, api.ErrBig)
	got, err = whole.Sum(turned(most()), of(-1))
	fails(t, "Sum", got, err, api.ErrBig)
	long := slices.Repeat([]api.Int{most()}, 50)
	all := append(slices.Clone(long), slices.Repeat([]api.Int{turned(most())}, 49)...)
	got, err = whole.Sum(all...)
	is(t, "Sum of 50 less 49", got, err, toBig(most()))
	got, err = whole.Sum(append(all, of(1))...)
	fails(t, "Sum of 50 less 49, and 1", got, err, api.ErrBig)
	got, err = whole.Sum(append(all, turned(most()), of(-3))...)
	is(t, "Sum of 50 less 50, less 3", got, err, big.NewInt(-3))
	// So too where a number that comes in is too long.
	got, err = whole.Sum(pow(9*mostBits), least(), turned(off(least(), 4)), turned(pow(9*mostBits)))
	is(t, "Sum of long ones", got, err, big.NewInt(-4))
	got, err = whole.Sum(pow(9*mostBits), least(), turned(pow(9*mostBits)))
	fails(t, "Sum of long ones", got, err, api.ErrBig)
	got, err = whole.Sum(turned(least()), of(1))
	is(t, "Sum", got, err, toBig(turned(most())))
}

func TestMulAtTheMost(t *testing.T) {
	half, below := off(pow(mostBits/2), 1), ones(api.MaxLimbs/2)
	got, err := whole.Mul(turned(half), below)
	is(t, "-(2^131072 + 1)(2^131072 - 1)", got, err, toBig(turned(most())))
	got, err = whole.Mul(turned(half), turned(half))
	fails(t, "(2^131072 + 1) by itself", got, err, api.ErrBig)
	got, err = whole.Mul(turned(most()), minus(1, 0, 0))
	is(t, "the most by -1", got, err, toBig(most()))
	for _, long := range []api.Int{least(), turned(least()), pow(5 * mostBits)} {
		for _, zero := range []api.Int{plus(), minus(), minus(0, 0)} {
			got, err = whole.Mul(long, zero)
			is(t, "a long one by 0", got, err, new(big.Int))
			got, err = whole.Mul(zero, long)
			is(t, "0 by a long one", got, err, new(big.Int))
		}
		got, err = whole.Mul(long, of(-1))
		fails(t, "a long one by -1", got, err, api.ErrBig)
		got, err = whole.Mul(of(1), long)
		fails(t, "1 by a long one", got, err, api.ErrBig)
	}
}
