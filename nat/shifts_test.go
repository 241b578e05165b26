package nat_test

import (
	"math"
	"math/big"
	"testing"

	"tribunal/api"
	"tribunal/nat"
)

// These are the tests of P1.4.

func TestShl(t *testing.T) {
	for _, a := range samples() {
		for n := range 200 {
			got, err := nat.Shl(a, n)
			isNumber(t, "Shl", got, err, new(big.Int).Lsh(toBig(a), uint(n)))
		}
	}
}

func TestShlOfZero(t *testing.T) {
	for _, zero := range []api.Nat{nil, {}, {0}, {0, 0}, padded(nil, 5000)} {
		for _, n := range []int{0, 1, 63, 64, 65, mostBits - 1, mostBits, mostBits + 1, 1 << 40, math.MaxInt - 1, math.MaxInt} {
			got, err := nat.Shl(zero, n)
			is(t, "Shl of 0", got, err, nil)
		}
	}
}

func TestShlAtTheMost(t *testing.T) {
	got, err := nat.Shl(nat.Of(1), mostBits-1)
	is(t, "1 by 262143", got, err, pow(mostBits-1))
	got, err = nat.Shl(api.Nat{3, 0, 0}, mostBits-2)
	isNumber(t, "3 by 262142", got, err, new(big.Int).Lsh(big.NewInt(3), mostBits-2))
	got, err = nat.Shl(pow(mostBits-64), 63)
	is(t, "2^262080 by 63", got, err, pow(mostBits-1))
	got, err = nat.Shl(padded(most(), 2), 0)
	is(t, "the most by 0", got, err, most())
	got, err = nat.Shl(ones(api.MaxLimbs-1), 64)
	isNumber(t, "nearly the most by 64", got, err, new(big.Int).Lsh(toBig(ones(api.MaxLimbs-1)), 64))
	for _, c := range []struct {
		a api.Nat
		n int
	}{
		{nat.Of(1), mostBits}, {nat.Of(3), mostBits - 1}, {nat.Of(1), mostBits + 1}, {nat.Of(1), math.MaxInt}, {nat.Of(top), math.MaxInt - 63},
		{most(), 1}, {pow(mostBits - 1), 1}, {pow(mostBits - 64), 64}, {most(), math.MaxInt},
		{least(), 0}, {padded(least(), 3), 1}, {pow(mostBits + 64), 0},
	} {
		got, err := nat.Shl(c.a, c.n)
		fails(t, "Shl past the most", got, err, api.ErrBig)
	}
}

func TestShr(t *testing.T) {
	for _, a := range samples() {
		for n := range 400 {
			got, err := nat.Shr(a, n)
			isNumber(t, "Shr", got, err, new(big.Int).Rsh(toBig(a), uint(n)))
		}
		for _, n := range []int{1000, 1001, 5000, mostBits, 1 << 40, math.MaxInt - 1, math.MaxInt} {
			got, err := nat.Shr(a, n)
			isNumber(t, "Shr by many", got, err, new(big.Int).Rsh(toBig(a), uint(min(n, 1<<20))))
		}
	}
}

func TestShrAtTheMost(t *testing.T) {
	for _, n := range []int{0, 1, 63, 64, 65, mostBits - 1, mostBits, mostBits + 1, math.MaxInt} {
		got, err := nat.Shr(padded(most(), 1), n)
		isNumber(t, "Shr of the most", got, err, new(big.Int).Rsh(toBig(most()), uint(min(n, 1<<20))))
		got, err = nat.Shr(least(), n)
		fails(t, "Shr of a long one", got, err, api.ErrBig)
		got, err = nat.Shr(pow(mostBits+64), n)
		fails(t, "Shr of a long one", got, err, api.ErrBig)
	}
}

// A number of bits below 0 comes ahead of all else.
func TestShiftsBelowZero(t *testing.T) {
	list := append(samples(), most(), least(), pow(mostBits+64))
	for _, a := range list {
		for _, n := range []int{-1, -63, -64, -65, math.MinInt + 1, math.MinInt} {
			got, err := nat.Shl(a, n)
			fails(t, "Shl below 0", got, err, api.ErrArg)
			got, err = nat.Shr(a, n)
			fails(t, "Shr below 0", got, err, api.ErrArg)
		}
	}
}
