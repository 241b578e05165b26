package nat_test

import (
	"encoding/binary"
	"math/big"
	"slices"
	"testing"

	"tribunal/api"
)

const top = ^uint64(0)

// mostBits is how many binary digits a number may have without being long.
const mostBits = 64 * api.MaxLimbs

func toBig(a api.Nat) *big.Int {
	bytes := make([]byte, 8*len(a))
	for i, x := range a {
		binary.BigEndian.PutUint64(bytes[8*(len(a)-1-i):], x)
	}
	return new(big.Int).SetBytes(bytes)
}

func fromBig(n *big.Int) api.Nat {
	bytes := n.FillBytes(make([]byte, (n.BitLen()+63)/64*8))
	a := make(api.Nat, len(bytes)/8)
	for i := range a {
		a[i] = binary.BigEndian.Uint64(bytes[8*(len(a)-1-i):])
	}
	return a
}

// pow is 2 to the n.
func pow(n int) api.Nat {
	a := make(api.Nat, n/64+1)
	a[n/64] = 1 << (n % 64)
	return a
}

// ones is 2 to the 64 n, less 1.
func ones(n int) api.Nat {
	a := make(api.Nat, n)
	for i := range a {
		a[i] = top
	}
	return a
}

// padded is the same number with zeros on top.
func padded(a api.Nat, zeros int) api.Nat {
	return append(slices.Clone(a), make(api.Nat, zeros)...)
}

// most is the greatest number that is not long, least the least that is.
func most() api.Nat  { return ones(api.MaxLimbs) }
func least() api.Nat { return pow(mostBits) }

func isRight(a api.Nat) bool {
	return len(a) == 0 || a[len(a)-1] != 0
}

// is holds an answer without an error against the number that it should be, and asks for its form.
func is(t *testing.T, what string, got api.Nat, err api.Errno, want api.Nat) {
	t.Helper()
	isNumber(t, what, got, err, toBig(want))
}

func isNumber(t *testing.T, what string, got api.Nat, err api.Errno, want *big.Int) {
	t.Helper()
	switch {
	case err != api.OK:
		t.Errorf("%s: error %d", what, err)
	case !isRight(got):
		t.Errorf("%s: zeros on top: %s", what, brief(got))
	case toBig(got).Cmp(want) != 0:
		t.Errorf("%s: %s; want %s", what, brief(got), brief(fromBig(want)))
	}
}

// fails asks for an error, beside which there is no number.
func fails(t *testing.T, what string, got api.Nat, err, want api.Errno) {
	t.Helper()
	if err != want || len(got) != 0 {
		t.Errorf("%s: %s, error %d; want error %d", what, brief(got), err, want)
	}
}

// brief tells a number, but no more of a great one than helps.
func brief(a api.Nat) string {
	s := toBig(a).Text(16)
	if len(s) > 80 {
		s = s[:40] + ".." + s[len(s)-40:]
	}
	return "0x" + s
}

// dice are numbers that look like any, the same ones each time.
type dice struct{ state uint64 }

func (d *dice) roll() uint64 {
	d.state += 0x9e3779b97f4a7c15
	z := d.state
	z = (z ^ z>>30) * 0xbf58476d1ce4e5b9
	z = (z ^ z>>27) * 0x94d049bb133111eb
	return z ^ z>>31
}

func (d *dice) below(n int) int { return int(d.roll() % uint64(n)) }

// limb is often one of those at which carries and guesses go wrong.
func (d *dice) limb() uint64 {
	switch d.below(8) {
	case 0:
		return 0
	case 1:
		return top
	case 2:
		return 1 << 63
	case 3:
		return 1
	case 4:
		return 1<<63 - 1
	}
	return d.roll()
}

func (d *dice) nat(limbs int) api.Nat {
	a := make(api.Nat, limbs)
	for i := range a {
		a[i] = d.limb()
	}
	return a
}

// samples are numbers of all lengths, some with zeros on top.
func samples() []api.Nat {
	return []api.Nat{
		nil, {}, {0}, {0, 0, 0}, {1}, {1, 0}, {2}, {5}, {10}, {top}, {top, 0, 0}, {1 << 63},
		{0, 1}, {0, 1, 0}, {1, 1}, {top, top}, {0, 1 << 63}, {top, 0, 1}, {0, 0, 1}, {0, top, top, 0},
		{12345678901234567890, 9876543210987654321, 42}, ones(5), pow(300), padded(pow(1000), 3),
	}
}
