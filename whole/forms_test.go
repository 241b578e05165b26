package whole_test

import (
	"math"
	"math/big"
	"testing"

	"tribunal/api"
	"tribunal/whole"
)

// These are the tests of P2.1.

func TestOfAndSmall(t *testing.T) {
	for _, n := range []int64{0, 1, -1, 2, -2, 7, -1000, 1 << 32, -1 << 32, math.MaxInt64, math.MaxInt64 - 1, math.MinInt64, math.MinInt64 + 1} {
		a := whole.Of(n)
		is(t, "Of", a, api.OK, big.NewInt(n))
		for _, form := range []api.Int{a, padded(a, 1), padded(a, 5000)} {
			if got, fits := whole.Small(form); got != n || !fits {
				t.Errorf("Small of %d: %d, %t", n, got, fits)
			}
		}
	}
}

func TestSmall(t *testing.T) {
	for _, c := range []struct {
		a    api.Int
		n    int64
		fits bool
	}{
		{plus(), 0, true}, {minus(), 0, true}, {minus(0, 0), 0, true}, {padded(minus(), 5000), 0, true},
		{plus(1<<63 - 1), math.MaxInt64, true}, {plus(1 << 63), 0, false}, {plus(1<<63 + 1), 0, false}, {plus(top), 0, false},
		{minus(1<<63 - 1), -math.MaxInt64, true}, {minus(1 << 63), math.MinInt64, true}, {minus(1<<63, 0), math.MinInt64, true},
		{minus(1<<63 + 1), 0, false}, {minus(top), 0, false}, {plus(5, 1), 0, false}, {minus(5, 1), 0, false}, {minus(0, 1), 0, false},
		{most(), 0, false}, {turned(most()), 0, false}, {least(), 0, false}, {turned(least()), 0, false},
	} {
		if n, fits := whole.Small(c.a); n != c.n || fits != c.fits {
			t.Errorf("Small(%s): %d, %t", brief(c.a), n, fits)
		}
	}
}

func TestOneNumber(t *testing.T) {
	for _, a := range append(samples(), greats()...) {
		n := toBig(a)
		is(t, "Norm", whole.Norm(a), api.OK, n)
		is(t, "Neg", whole.Neg(a), api.OK, new(big.Int).Neg(n))
		is(t, "Abs", whole.Abs(a), api.OK, new(big.Int).Abs(n))
		if got := whole.Sign(a); got != n.Sign() {
			t.Errorf("Sign(%s): %d", brief(a), got)
		}
	}
	for _, a := range []api.Int{plus(), minus(), plus(0, 0), minus(0, 0), padded(minus(), 5000)} {
		for _, b := range []api.Int{whole.Norm(a), whole.Neg(a), whole.Abs(a)} {
			if b.Neg || len(b.Mag) != 0 {
				t.Errorf("a form of 0: %v", b)
			}
		}
	}
}

func TestCmp(t *testing.T) {
	list := append(samples(), greats()...)
	for _, a := range list {
		for _, b := range list {
			if got, want := whole.Cmp(a, b), toBig(a).Cmp(toBig(b)); got != want {
				t.Errorf("Cmp(%s, %s): %d; want %d", brief(a), brief(b), got, want)
			}
		}
	}
	for _, c := range []struct {
		a, b api.Int
		want int
	}{
		{minus(), plus(0, 0), 0}, {plus(), minus(0), 0}, {minus(1), plus(), -1}, {minus(), minus(1), 1}, {plus(1), minus(9), 1},
		{minus(1, 2), minus(2, 1), -1}, {minus(9), minus(0, 1), 1}, {minus(5, 0), minus(5), 0}, {minus(5), plus(5), -1}, {plus(5), plus(5, 0), 0},
	} {
		if got := whole.Cmp(c.a, c.b); got != c.want {
			t.Errorf("Cmp(%v, %v): %d; want %d", c.a, c.b, got, c.want)
		}
	}
}
