package nat_test

import (
	"math/big"
	"testing"

	"tribunal/api"
	"tribunal/nat"
)

// These are the tests of P1.3.

func checkQuo(t *testing.T, a, b api.Nat) {
	t.Helper()
	q, r, err := nat.Quo(a, b)
	if toBig(b).Sign() == 0 {
		fails(t, "Quo by 0", q, err, api.ErrZero)
		fails(t, "Quo by 0", r, err, api.ErrZero)
		return
	}
	wantQ, wantR := new(big.Int).QuoRem(toBig(a), toBig(b), new(big.Int))
	isNumber(t, "the quotient", q, err, wantQ)
	isNumber(t, "what is left", r, err, wantR)
}

func TestQuo(t *testing.T) {
	for _, a := range samples() {
		for _, b := range samples() {
			checkQuo(t, a, b)
		}
	}
	d := &dice{5}
	for range 20000 {
		checkQuo(t, d.nat(d.below(9)), d.nat(d.below(6)))
	}
	checkQuo(t, api.Nat{17}, api.Nat{5})
	checkQuo(t, api.Nat{5}, api.Nat{17})
	checkQuo(t, api.Nat{17, 0, 0}, api.Nat{5, 0})
	checkQuo(t, api.Nat{1}, api.Nat{0, 0})
}

// Numbers just around a multiple, and divisors whose highest limbs deceive a guess.
func TestQuoWithHardGuesses(t *testing.T) {
	d := &dice{6}
	one := nat.Of(1)
	for range 5000 {
		b := append(d.nat(1+d.below(4)), d.limb()|1<<63>>d.below(64))
		q := d.nat(1 + d.below(4))
		product, _ := nat.Mul(b, q)
		checkQuo(t, product, b)
		above, _ := nat.Add(product, b)
		below, err := nat.Sub(above, one)
		if err != api.OK {
			t.Fatal(err)
		}
		checkQuo(t, above, b)
		checkQuo(t, below, b)
	}
	checkQuo(t, api.Nat{0, 0, 1 << 63, 1<<63 - 1}, api.Nat{1, 0, 1 << 63})
	checkQuo(t, api.Nat{3, 0, 1 << 63}, api.Nat{1, 0, 1 << 61})
	checkQuo(t, api.Nat{0, top - 1, 1 << 63}, api.Nat{top, 1 << 63})
	checkQuo(t, api.Nat{0, 0, 0, 1 << 63}, api.Nat{1, 0, 1 << 63})
	checkQuo(t, api.Nat{top, top, top, top - 1}, api.Nat{top, top, top})
}

func TestQuoAtTheMost(t *testing.T) {
	divisors := []api.Nat{
		{1}, {2}, {10}, {top}, {top, top}, pow(64), pow(mostBits / 2), ones(api.MaxLimbs / 2), pow(mostBits - 1),
		padded(most(), 1), append(ones(api.MaxLimbs-1), 1), append(api.Nat{1}, ones(1000)...),
	}
	for _, b := range divisors {
		checkQuo(t, most(), b)
		checkQuo(t, padded(pow(mostBits-1), 10), b)
		checkQuo(t, nat.Of(3), b)
	}
	checkQuo(t, most(), nil)
	for _, c := range [][2]api.Nat{
		{least(), {1}}, {least(), least()}, {{1}, least()}, {nil, padded(least(), 2)}, {pow(mostBits + 77), {0, 1}},
		{least(), nil}, {least(), {0, 0}},
	} {
		q, r, err := nat.Quo(c[0], c[1])
		fails(t, "Quo of a long one", q, err, api.ErrBig)
		fails(t, "Quo of a long one", r, err, api.ErrBig)
	}
}

func checkGcd(t *testing.T, a, b api.Nat) {
	t.Helper()
	want := new(big.Int).GCD(nil, nil, toBig(a), toBig(b))
	got, err := nat.Gcd(a, b)
	isNumber(t, "Gcd", got, err, want)
	got, err = nat.Gcd(b, a)
	isNumber(t, "Gcd turned round", got, err, want)
}

func TestGcd(t *testing.T) {
	for _, a := range samples() {
		for _, b := range samples() {
			checkGcd(t, a, b)
		}
	}
	checkGcd(t, api.Nat{12}, api.Nat{18})
	checkGcd(t, nil, nil)
	checkGcd(t, api.Nat{0, 0}, api.Nat{9, 9, 0})
	checkGcd(t, api.Nat{6, 0, 0}, api.Nat{0, 6})
	d := &dice{7}
	for range 5000 {
		a, b, c := d.nat(d.below(7)), d.nat(d.below(7)), d.nat(1+d.below(3))
		checkGcd(t, a, b)
		a, _ = nat.Mul(a, c)
		b, _ = nat.Mul(b, c)
		checkGcd(t, a, b)
	}
}

// Fibonacci's numbers take the most steps; a step with a great quotient comes between in the others.
func TestGcdOfManySteps(t *testing.T) {
	a, b := big.NewInt(1), big.NewInt(1)
	for i := range 3000 {
		a.Add(a, b)
		a, b = b, a
		if i%50 == 0 {
			checkGcd(t, fromBig(a), fromBig(b))
			checkGcd(t, fromBig(new(big.Int).Mul(a, big.NewInt(997))), fromBig(new(big.Int).Mul(b, big.NewInt(997))))
		}
	}
	d := &dice{8}
	for range 200 {
		a, b := big.NewInt(0), toBig(d.nat(1+d.below(2)))
		for range 60 {
			q := toBig(d.nat(1))
			q.Rsh(q, uint(d.below(64)))
			a.Add(a, q.Mul(q, b))
			a, b = b, a
		}
		checkGcd(t, fromBig(a), fromBig(b))
	}
}

func TestGcdAtTheMost(t *testing.T) {
	checkGcd(t, most(), most())
	checkGcd(t, most(), nil)
	checkGcd(t, padded(most(), 3), pow(mostBits-1))
	checkGcd(t, most(), ones(api.MaxLimbs/2))
	checkGcd(t, most(), (&dice{9}).nat(api.MaxLimbs))
	checkGcd(t, most(), api.Nat{3})
	for _, c := range [][2]api.Nat{{least(), {1}}, {{1}, least()}, {nil, least()}, {least(), nil}, {least(), least()}, {padded(least(), 1), {4}}} {
		got, err := nat.Gcd(c[0], c[1])
		fails(t, "Gcd of a long one", got, err, api.ErrBig)
	}
}
