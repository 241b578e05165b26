package ratio_test

import (
	"encoding/binary"
	"math/big"
	"slices"
	"testing"

	"tribunal/api"
)

const top = ^uint64(0)

// mostBits is how many binary digits either part of a fraction may have without being long.
const mostBits = 64 * api.MaxRat

func bigNat(a api.Nat) *big.Int {
	bytes := make([]byte, 8*len(a))
	for i, x := range a {
		binary.BigEndian.PutUint64(bytes[8*(len(a)-1-i):], x)
	}
	return new(big.Int).SetBytes(bytes)
}

func bigInt(a api.Int) *big.Int {
	n := bigNat(a.Mag)
	if a.Neg {
		n.Neg(n)
	}
	return n
}

func bigRat(a api.Rat) *big.Rat { return new(big.Rat).SetFrac(bigInt(a.Num), bigNat(a.Den)) }

func natOf(n *big.Int) api.Nat {
	bytes := n.FillBytes(make([]byte, (n.BitLen()+63)/64*8))
	a := make(api.Nat, len(bytes)/8)
	for i := range a {
		a[i] = binary.BigEndian.Uint64(bytes[8*(len(a)-1-i):])
	}
	return a
}

func intOf(n *big.Int) api.Int { return api.Int{Neg: n.Sign() < 0, Mag: natOf(n)} }

// ratOf is n / d just as it is asked for: d may be 0, and have common divisors with n.
func ratOf(n, d int64) api.Rat {
	return api.Rat{Num: intOf(big.NewInt(n)), Den: natOf(big.NewInt(d))}
}

// by is a number by another, of whatever form.
func by(num api.Int, den api.Nat) api.Rat { return api.Rat{Num: num, Den: den} }

// plus and minus are numbers of such limbs.
func plus(limbs ...uint64) api.Int  { return api.Int{Mag: limbs} }
func minus(limbs ...uint64) api.Int { return api.Int{Neg: true, Mag: limbs} }

// pow is 2 to the n.
func pow(n int) api.Nat {
	a := make(api.Nat, n/64+1)
	a[n/64] = 1 << (n % 64)
	return a
}

// ones is 2 to the 64 n, less 1.
func ones(n int) api.Nat { return slices.Repeat(api.Nat{top}, n) }

// most is the greatest number that is not long, least the least that is.
func most() api.Nat  { return ones(api.MaxRat) }
func least() api.Nat { return pow(mostBits) }

// times is a number that may be long.
func times(a, b api.Nat) api.Nat { return natOf(new(big.Int).Mul(bigNat(a), bigNat(b))) }

// off is a number near a: a and n.
func off(a api.Nat, n int64) api.Nat { return natOf(new(big.Int).Add(bigNat(a), big.NewInt(n))) }

func padded(a api.Nat, zeros int) api.Nat { return append(slices.Clone(a), make(api.Nat, zeros)...) }

// grown is the same fraction, both parts multiplied with n, and with zeros on top.
func grown(a api.Rat, n uint64, zeros int) api.Rat {
	num := api.Int{Neg: a.Num.Neg, Mag: padded(times(a.Num.Mag, api.Nat{n}), zeros)}
	return by(num, padded(times(a.Den, api.Nat{n}), zeros))
}

func turned(a api.Rat) api.Rat { return by(api.Int{Neg: !a.Num.Neg, Mag: a.Num.Mag}, a.Den) }

// isRight is what Right should say.
func isRight(a api.Rat) bool {
	num, den := a.Num.Mag, a.Den
	switch {
	case len(den) == 0 || den[len(den)-1] == 0:
		return false
	case len(num) == 0:
		return !a.Num.Neg && len(den) == 1 && den[0] == 1
	case num[len(num)-1] == 0:
		return false
	}
	return new(big.Int).GCD(nil, nil, bigNat(num), bigNat(den)).Cmp(big.NewInt(1)) == 0
}

// is holds an answer without an error against the fraction that it should be, and asks whether it is right.
func is(t *testing.T, what string, got api.Rat, err api.Errno, want *big.Rat) {
	t.Helper()
	switch {
	case err != api.OK:
		t.Errorf("%s: error %d", what, err)
	case !isRight(got):
		t.Errorf("%s: not right: %s", what, brief(got))
	case bigRat(got).Cmp(want) != 0:
		t.Errorf("%s: %s; want %s", what, brief(got), short(want.String()))
	}
}

// fails asks for an error, beside which there is the zero fraction.
func fails(t *testing.T, what string, got api.Rat, err, want api.Errno) {
	t.Helper()
	if err != want || got.Num.Neg || len(got.Num.Mag) != 0 || len(got.Den) != 0 {
		t.Errorf("%s: %s, error %d; want error %d", what, brief(got), err, want)
	}
}

// comesTo is is, or fails if the fraction that should be answered is long.
func comesTo(t *testing.T, what string, got api.Rat, err api.Errno, want *big.Rat) {
	t.Helper()
	if isLong(want) {
		fails(t, what, got, err, api.ErrBig)
	} else {
		is(t, what, got, err, want)
	}
}

func isLong(a *big.Rat) bool { return a.Num().BitLen() > mostBits || a.Denom().BitLen() > mostBits }

// isInt holds a whole number against the one that it should be, and asks for its form.
func isInt(t *testing.T, what string, got api.Int, want *big.Int) {
	t.Helper()
	n := len(got.Mag)
	if n == 0 && got.Neg || n > 0 && got.Mag[n-1] == 0 || bigInt(got).Cmp(want) != 0 {
		t.Errorf("%s: %s; want %s", what, short(bigInt(got).Text(16)), short(want.Text(16)))
	}
}

func isZero(a api.Int) bool { return !a.Neg && len(a.Mag) == 0 }

// brief tells a fraction, but no more of a great one than helps.
func brief(a api.Rat) string {
	return short(bigInt(a.Num).Text(16)) + " / " + short(bigNat(a.Den).Text(16)) + " (hex)"
}

func short(s string) string {
	if len(s) > 50 {
		return s[:24] + ".." + s[len(s)-24:]
	}
	return s
}

// dice are numbers that look like any, the same ones each time.
type dice struct{ state uint64 }

func (d *dice) roll() uint64 {
	d.state += 0x9e3779b97f4a7c15
	z := d.state
	z = (z ^ z>>30) * 0xbf58476d1ce4e5b9
	z = (z ^ z>>27) * 0x94d049bb133111eb
	return z ^ z>>31
}

func (d *dice) below(n int) int { return int(d.roll() % uint64(n)) }

func (d *dice) limb() uint64 {
	switch d.below(8) {
	case 0:
		return 0
	case 1:
		return top
	case 2:
		return 1 << 63
	case 3:
		return 1
	case 4, 5:
		return d.roll() >> d.below(64)
	}
	return d.roll()
}

func (d *dice) nat(limbs int) api.Nat {
	var a api.Nat
	for range limbs {
		a = append(a, d.limb())
	}
	return a
}

// number has any sign and any form.
func (d *dice) number(limbs int) api.Int {
	return api.Int{Neg: d.below(2) == 0, Mag: d.nat(limbs)}
}

// fraction has any form; both parts have up to that many limbs, and often a common divisor.
func (d *dice) fraction(limbs int) api.Rat {
	num, den := d.number(d.below(limbs+1)), d.nat(1+d.below(limbs))
	if bigNat(den).Sign() == 0 {
		den[0] = 1 + d.roll()>>1
	}
	if d.below(2) == 0 {
		return by(num, den)
	}
	return grown(by(num, den), 1+d.roll()>>d.below(64)>>1, d.below(3))
}

// samples are fractions of both signs, many of them in other forms than the right one.
func samples() []api.Rat {
	list := []api.Rat{
		ratOf(0, 1), ratOf(0, 5), by(minus(), api.Nat{1}), by(minus(0, 0), api.Nat{7, 0}), by(plus(0), api.Nat{0, 0, 3}),
		ratOf(1, 1), ratOf(7, 7), by(plus(3, 0), api.Nat{3, 0, 0}), ratOf(2, 1), ratOf(4, 2), ratOf(1, 2), ratOf(3, 6), by(plus(2, 0), api.Nat{4}),
		ratOf(1, 3), ratOf(2, 6), ratOf(1, 6), ratOf(3, 2), ratOf(6, 4), ratOf(5, 2), ratOf(7, 3), ratOf(355, 113), ratOf(1000000, 7),
		by(plus(top), api.Nat{1}), by(plus(top), api.Nat{top}), by(plus(1), api.Nat{top}), by(plus(0, 1), api.Nat{top}), by(plus(0, 1), api.Nat{0, 2}),
		by(plus(top, top), api.Nat{0, 1}), by(plus(1, 1), api.Nat{1, 1}), by(plus(0, 0, 1), api.Nat{0, 1 << 63}), by(plus(1<<63), api.Nat{0, 0, 3}),
		by(api.Int{Mag: ones(4)}, ones(3)), by(api.Int{Mag: pow(300)}, off(pow(300), 1)), by(api.Int{Mag: off(pow(300), -1)}, padded(pow(299), 2)),
	}
	for _, a := range list {
		list = append(list, turned(a))
	}
	return list
}

// greats are fractions at the most limbs that either part may have.
func greats() []api.Rat {
	third, odd := natOf(new(big.Int).Div(bigNat(most()), big.NewInt(3))), off(least(), -3)
	list := []api.Rat{
		by(api.Int{Mag: most()}, api.Nat{1}), by(plus(1), most()), by(api.Int{Mag: most()}, off(most(), -1)), by(api.Int{Mag: off(most(), -1)}, most()),
		by(api.Int{Mag: most()}, padded(most(), 2)), by(api.Int{Mag: padded(most(), 2)}, third), by(api.Int{Mag: third}, most()),
		by(api.Int{Mag: odd}, api.Nat{2}), by(plus(2), odd), by(api.Int{Mag: pow(mostBits - 1)}, api.Nat{1}), by(plus(1), pow(mostBits-1)),
		by(api.Int{Mag: pow(mostBits / 2)}, off(pow(mostBits/2), 1)), by(plus(0, 0), padded(most(), 5)), by(plus(), api.Nat{1}), ratOf(-3, 2),
	}
	for _, a := range list {
		list = append(list, turned(a))
	}
	return list
}

// long are fractions that are long as they stand, though some are not in lowest terms.
func long() []api.Rat {
	return []api.Rat{
		by(api.Int{Mag: least()}, api.Nat{1}), by(api.Int{Neg: true, Mag: least()}, least()), by(plus(1), least()), by(plus(), least()), by(minus(0), least()),
		by(api.Int{Mag: least()}, api.Nat{2}), by(plus(2), padded(least(), 1)), by(api.Int{Mag: ones(api.MaxRat + 1)}, ones(api.MaxRat+1)),
		by(api.Int{Neg: true, Mag: ones(api.MaxLimbs)}, api.Nat{3}), by(plus(5), ones(api.MaxLimbs+1)), by(api.Int{Mag: pow(64 * 9000)}, pow(64*9000)),
	}
}

// none are no fractions: their denominator is 0.
func none() []api.Rat {
	return []api.Rat{
		{}, ratOf(1, 0), by(minus(5), api.Nat{0}), by(plus(), make(api.Nat, 5000)), by(api.Int{Mag: least()}, api.Nat{}), by(minus(0), api.Nat{0, 0}),
	}
}
