package whole_test

import (
	"encoding/binary"
	"math/big"
	"slices"
	"testing"

	"tribunal/api"
	"tribunal/whole"
)

const top = ^uint64(0)

// mostBits is how many binary digits a number may have without being too long.
const mostBits = 64 * api.MaxLimbs

func toBig(a api.Int) *big.Int {
	bytes := make([]byte, 8*len(a.Mag))
	for i, x := range a.Mag {
		binary.BigEndian.PutUint64(bytes[8*(len(a.Mag)-1-i):], x)
	}
	n := new(big.Int).SetBytes(bytes)
	if a.Neg {
		n.Neg(n)
	}
	return n
}

func fromBig(n *big.Int) api.Int {
	bytes := n.FillBytes(make([]byte, (n.BitLen()+63)/64*8))
	a := make(api.Nat, len(bytes)/8)
	for i := range a {
		a[i] = binary.BigEndian.Uint64(bytes[8*(len(a)-1-i):])
	}
	return api.Int{Neg: n.Sign() < 0, Mag: a}
}

func tooLong(n *big.Int) bool { return n.BitLen() > mostBits }

// plus and minus are numbers of such limbs.
func plus(limbs ...uint64) api.Int  { return api.Int{Mag: limbs} }
func minus(limbs ...uint64) api.Int { return api.Int{Neg: true, Mag: limbs} }

// pow is 2 to the n.
func pow(n int) api.Int {
	a := make(api.Nat, n/64+1)
	a[n/64] = 1 << (n % 64)
	return api.Int{Mag: a}
}

// ones is 2 to the 64 n, less 1.
func ones(n int) api.Int { return api.Int{Mag: slices.Repeat(api.Nat{top}, n)} }

// padded is the same number with zeros on top.
func padded(a api.Int, zeros int) api.Int {
	return api.Int{Neg: a.Neg, Mag: append(slices.Clone(a.Mag), make(api.Nat, zeros)...)}
}

// turned has the other sign, 0 too.
func turned(a api.Int) api.Int { return api.Int{Neg: !a.Neg, Mag: slices.Clone(a.Mag)} }

// off is a number near a: a and n.
func off(a api.Int, n int64) api.Int {
	return fromBig(new(big.Int).Add(toBig(a), big.NewInt(n)))
}

// most is the greatest number that is not too long, least the least that is.
func most() api.Int  { return ones(api.MaxLimbs) }
func least() api.Int { return pow(mostBits) }

// same tells whether two numbers have one and the same form, too.
func same(a, b api.Int) bool { return a.Neg == b.Neg && slices.Equal(a.Mag, b.Mag) }

func isCanonical(a api.Int) bool {
	n := len(a.Mag)
	return n == 0 && !a.Neg || n > 0 && a.Mag[n-1] != 0
}

// is holds an answer without an error against the number that it should be, and asks for its form.
func is(t *testing.T, what string, got api.Int, err api.Errno, want *big.Int) {
	t.Helper()
	switch {
	case err != api.OK:
		t.Errorf("%s: error %d", what, err)
	case !isCanonical(got):
		t.Errorf("%s: not canonical: %s", what, brief(got))
	case toBig(got).Cmp(want) != 0:
		t.Errorf("%s: %s; want %s", what, brief(got), brief(fromBig(want)))
	}
}

// fails asks for an error, beside which there is no number.
func fails(t *testing.T, what string, got api.Int, err, want api.Errno) {
	t.Helper()
	if err != want || got.Neg || len(got.Mag) != 0 {
		t.Errorf("%s: %s, error %d; want error %d", what, brief(got), err, want)
	}
}

// comesTo is is, or fails if the number that should be answered is too long.
func comesTo(t *testing.T, what string, got api.Int, err api.Errno, want *big.Int) {
	t.Helper()
	if tooLong(want) {
		fails(t, what, got, err, api.ErrBig)
	} else {
		is(t, what, got, err, want)
	}
}

// brief tells a number, but no more of a great one than helps.
func brief(a api.Int) string {
	s := toBig(a).Text(16)
	if len(s) > 80 {
		s = s[:40] + ".." + s[len(s)-40:]
	}
	return s + " (hex)"
}

func must(a api.Int, _ api.Errno) api.Int { return a }

func of(n int64) api.Int { return whole.Of(n) }

// dice are numbers that look like any, the same ones each time.
type dice struct{ state uint64 }

func (d *dice) roll() uint64 {
	d.state += 0x9e3779b97f4a7c15
	z := d.state
	z = (z ^ z>>30) * 0xbf58476d1ce4e5b9
	z = (z ^ z>>27) * 0x94d049bb133111eb
	return z ^ z>>31
}

func (d *dice) below(n int) int { return int(d.roll() % uint64(n)) }

// limb is often one of those at which carries and guesses go wrong.
func (d *dice) limb() uint64 {
	switch d.below(8) {
	case 0:
		return 0
	case 1:
		return top
	case 2:
		return 1 << 63
	case 3:
		return 1
	case 4:
		return d.roll() >> d.below(64)
	}
	return d.roll()
}

// number has any sign and any form.
func (d *dice) number(limbs int) api.Int {
	a := api.Int{Neg: d.below(2) == 0}
	for range limbs {
		a.Mag = append(a.Mag, d.limb())
	}
	if d.below(4) == 0 {
		a = padded(a, 1+d.below(3))
	}
	return a
}

// samples are numbers of both signs and of all lengths, some in other forms than the canonical one.
func samples() []api.Int {
	list := []api.Int{
		plus(), {Mag: api.Nat{}}, plus(0), plus(0, 0, 0), plus(1), plus(1, 0), plus(2), plus(3), plus(5), plus(7), plus(12), plus(18),
		plus(1<<63 - 1), plus(1 << 63), plus(1<<63 + 1), plus(top), plus(top, 0, 0), plus(0, 1), plus(0, 1, 0), plus(1, 1),
		plus(top, top), plus(0, 1<<63), plus(top, 0, 1), plus(0, 0, 1), plus(0, top, top, 0), plus(12345678901234567890, 9876543210987654321, 42),
		ones(5), pow(300), padded(pow(700), 3),
	}
	for _, a := range list {
		list = append(list, turned(a))
	}
	return list
}

// greats are numbers at the most limbs, and just below and above.
func greats() []api.Int {
	list := []api.Int{
		most(), off(most(), -1), least(), off(least(), 1), off(least(), -5), pow(mostBits - 1), pow(mostBits + 64), pow(mostBits + 1),
		padded(most(), 2), padded(least(), 2), padded(of(3), 5000), padded(plus(), 5000), ones(api.MaxLimbs + 1), ones(2*api.MaxLimbs + 3),
		pow(mostBits / 2), off(pow(mostBits/2), 1), ones(api.MaxLimbs / 2), pow(2 * mostBits), off(pow(2*mostBits), -1), pow(2*mostBits - 1),
	}
	for _, a := range list {
		list = append(list, turned(a))
	}
	return list
}
