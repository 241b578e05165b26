package nat_test

import (
	"math/big"
	"slices"
	"testing"

	"tribunal/api"
	"tribunal/nat"
)

// These are the tests of P1.2.

func TestAddOfTwo(t *testing.T) {
	for _, a := range samples() {
		for _, b := range samples() {
			got, err := nat.Add(a, b)
			isNumber(t, "Add", got, err, new(big.Int).Add(toBig(a), toBig(b)))
		}
	}
	d := &dice{1}
	for range 2000 {
		a, b := d.nat(d.below(8)), d.nat(d.below(8))
		got, err := nat.Add(a, b)
		isNumber(t, "Add", got, err, new(big.Int).Add(toBig(a), toBig(b)))
	}
}

func TestAddOfMany(t *testing.T) {
	got, err := nat.Add()
	is(t, "Add()", got, err, nil)
	got, err = nat.Add([]api.Nat{}...)
	is(t, "Add of an empty list", got, err, nil)
	got, err = nat.Add(nil, api.Nat{0, 0}, api.Nat{})
	is(t, "Add of zeros", got, err, nil)
	got, err = nat.Add(api.Nat{7, 0, 3, 0})
	is(t, "Add of one", got, err, api.Nat{7, 0, 3})
	got, err = nat.Add(samples()...)
	want := new(big.Int)
	for _, a := range samples() {
		want.Add(want, toBig(a))
	}
	isNumber(t, "Add of all samples", got, err, want)
	got, err = nat.Add(slices.Repeat([]api.Nat{{top, top}}, 1000)...)
	isNumber(t, "Add 1000 times", got, err, new(big.Int).Mul(toBig(ones(2)), big.NewInt(1000)))
	got, err = nat.Add(api.Nat{top}, api.Nat{1}, api.Nat{0, top}, api.Nat{5})
	is(t, "Add with carries", got, err, api.Nat{5, 0, 1})
}

func TestAddAtTheMost(t *testing.T) {
	half := pow(mostBits - 1)
	belowHalf, err := nat.Sub(half, nat.Of(1))
	is(t, "Sub", belowHalf, err, fromBig(new(big.Int).Sub(toBig(half), big.NewInt(1))))
	got, err := nat.Add(half, belowHalf)
	is(t, "Add up to the most", got, err, most())
	got, err = nat.Add(padded(most(), 1), nil, api.Nat{0})
	is(t, "Add 0 to the most", got, err, most())
	got, err = nat.Add(nil, padded(most(), 900))
	is(t, "Add to 0 the most", got, err, most())
	for _, l := range [][]api.Nat{
		{half, half},
		{most(), {1}},
		{{1}, most()},
		{most(), most(), most()},
		{belowHalf, {1}, {0}, half},
		{least()},
		{padded(least(), 4)},
		{nil, least()},
		{least(), nil},
		{{1}, {2}, pow(mostBits + 64)},
	} {
		got, err := nat.Add(l...)
		fails(t, "Add past the most", got, err, api.ErrBig)
	}
}

func TestSub(t *testing.T) {
	for _, a := range samples() {
		for _, b := range samples() {
			checkSub(t, a, b)
		}
	}
	d := &dice{2}
	for range 2000 {
		checkSub(t, d.nat(d.below(8)), d.nat(d.below(8)))
	}
	got, err := nat.Sub(api.Nat{0, 0, 0, 1}, api.Nat{1})
	is(t, "Sub with borrows", got, err, ones(3))
	got, err = nat.Sub(api.Nat{5, 7, 9}, api.Nat{4, 7, 9, 0, 0})
	is(t, "Sub", got, err, api.Nat{1})
}

func checkSub(t *testing.T, a, b api.Nat) {
	t.Helper()
	got, err := nat.Sub(a, b)
	want := new(big.Int).Sub(toBig(a), toBig(b))
	if want.Sign() < 0 {
		fails(t, "Sub", got, err, api.ErrBelow)
	} else {
		isNumber(t, "Sub", got, err, want)
	}
}

func TestSubAtTheMost(t *testing.T) {
	got, err := nat.Sub(most(), padded(most(), 5))
	is(t, "the most less the most", got, err, nil)
	got, err = nat.Sub(padded(most(), 5), nil)
	is(t, "the most less 0", got, err, most())
	got, err = nat.Sub(nil, most())
	fails(t, "0 less the most", got, err, api.ErrBelow)
	for _, c := range [][2]api.Nat{{least(), {1}}, {least(), least()}, {nil, least()}, {most(), least()}, {least(), pow(mostBits + 1)}} {
		got, err := nat.Sub(c[0], c[1])
		fails(t, "Sub of a long one", got, err, api.ErrBig)
	}
}

func TestMulOfTwo(t *testing.T) {
	for _, a := range samples() {
		for _, b := range samples() {
			got, err := nat.Mul(a, b)
			isNumber(t, "Mul", got, err, new(big.Int).Mul(toBig(a), toBig(b)))
		}
	}
	d := &dice{3}
	for range 2000 {
		a, b := d.nat(d.below(10)), d.nat(d.below(10))
		got, err := nat.Mul(a, b)
		isNumber(t, "Mul", got, err, new(big.Int).Mul(toBig(a), toBig(b)))
	}
}

func TestMulOfMany(t *testing.T) {
	got, err := nat.Mul()
	is(t, "Mul()", got, err, api.Nat{1})
	got, err = nat.Mul([]api.Nat{}...)
	is(t, "Mul of an empty list", got, err, api.Nat{1})
	got, err = nat.Mul(api.Nat{7, 0, 3, 0})
	is(t, "Mul of one", got, err, api.Nat{7, 0, 3})
	got, err = nat.Mul(api.Nat{0, 0})
	is(t, "Mul of one 0", got, err, nil)
	got, err = nat.Mul(slices.Repeat([]api.Nat{{1, 0}}, 1000)...)
	is(t, "Mul of 1s", got, err, api.Nat{1})
	d := &dice{4}
	for n := range 12 {
		want := big.NewInt(1)
		var l []api.Nat
		for range n {
			a := padded(append(d.nat(d.below(4)), d.roll()|1), d.below(3))
			l = append(l, a)
			want.Mul(want, toBig(a))
		}
		got, err := nat.Mul(l...)
		isNumber(t, "Mul of many", got, err, want)
	}
	var steps []api.Nat
	for n := range uint64(300) {
		steps = append(steps, nat.Of(n+1))
	}
	got, err = nat.Mul(steps...)
	isNumber(t, "the product of 1 to 300", got, err, new(big.Int).MulRange(1, 300))
}

func TestMulAtTheMost(t *testing.T) {
	got, err := nat.Mul(pow(mostBits/2), pow(mostBits/2-1))
	is(t, "2^262143", got, err, pow(mostBits-1))
	got, err = nat.Mul(pow(mostBits-1), nat.Of(1), nat.Of(1))
	is(t, "2^262143 and 1", got, err, pow(mostBits-1))
	got, err = nat.Mul(slices.Repeat([]api.Nat{{2}}, mostBits-1)...)
	is(t, "2s", got, err, pow(mostBits-1))
	above, _ := nat.Add(pow(mostBits/2), nat.Of(1))
	below := ones(api.MaxLimbs / 2)
	got, err = nat.Mul(above, below)
	is(t, "(2^131072 + 1)(2^131072 - 1)", got, err, most())
	got, err = nat.Mul(padded(most(), 2), padded(nat.Of(1), 6000))
	is(t, "the most and 1", got, err, most())
	for _, l := range [][]api.Nat{
		{pow(mostBits / 2), pow(mostBits / 2)},
		{pow(mostBits - 1), {2}},
		{{2}, pow(mostBits - 1)},
		{above, above},
		{most(), most()},
		{most(), {1}, {1}, {2}},
		{pow(mostBits / 3), pow(mostBits / 3), pow(mostBits / 3), {2, 0}},
		slices.Repeat([]api.Nat{{2}}, mostBits),
	} {
		got, err := nat.Mul(l...)
		fails(t, "Mul past the most", got, err, api.ErrBig)
	}
}

func TestMulWithZero(t *testing.T) {
	for _, l := range [][]api.Nat{
		{nil, most()},
		{most(), most(), nil},
		{{0, 0}, most(), most()},
		{most(), {}, most(), most(), most()},
		{pow(mostBits / 2), pow(mostBits / 2), padded(nil, 5000)},
	} {
		got, err := nat.Mul(l...)
		is(t, "Mul with a 0", got, err, nil)
	}
	// A factor that is long itself is an error that comes ahead of the product.
	for _, l := range [][]api.Nat{{least()}, {nil, least()}, {least(), nil}, {{1}, {0}, pow(mostBits + 9)}, {padded(least(), 3), {1}}} {
		got, err := nat.Mul(l...)
		fails(t, "Mul of a long one", got, err, api.ErrBig)
	}
}
