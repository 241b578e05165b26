package bits_test

import (
	"math/big"
	"slices"
	"strings"
	"testing"

	"tribunal/api"
)

const top = ^uint64(0)

// row writes a vector's bits, the highest first, as its limbs have them.
func row(b api.Bits) string {
	var out strings.Builder
	for i := b.Width - 1; i >= 0; i-- {
		bit := byte('0')
		if i/64 < len(b.Val) && b.Val[i/64]>>(i%64)&1 == 1 {
			bit = '1'
		}
		out.WriteByte(bit)
	}
	return out.String()
}

// vec is the vector of these bits, the highest first.
func vec(bits string) api.Bits {
	val := make(api.Nat, (len(bits)+63)/64)
	for i := range len(bits) {
		if bits[len(bits)-1-i] == '1' {
			val[i/64] |= 1 << (i % 64)
		}
	}
	for len(val) > 0 && val[len(val)-1] == 0 {
		val = val[:len(val)-1]
	}
	return api.Bits{Width: len(bits), Val: val}
}

// wide is the row of the lowest w bits of n, by two's complement.
func wide(w int, n *big.Int) string {
	out := make([]byte, w)
	for i := range w {
		out[w-1-i] = '0' + byte(n.Bit(i))
	}
	return string(out)
}

// small is the same of a small number.
func small(w int, n int64) string { return wide(w, big.NewInt(n)) }

// unsigned and signed are the numbers of a row.
func unsigned(bits string) *big.Int {
	n, ok := new(big.Int).SetString(bits, 2)
	if !ok {
		panic("no row of bits: " + bits)
	}
	return n
}

func signed(bits string) *big.Int {
	n := unsigned(bits)
	if bits[0] == '1' {
		n.Sub(n, pow(len(bits)))
	}
	return n
}

// pow is 2 to the n.
func pow(n int) *big.Int { return new(big.Int).Lsh(big.NewInt(1), uint(n)) }

// intOf is a whole number in its canonical form.
func intOf(n *big.Int) api.Int {
	return api.Int{Neg: n.Sign() < 0, Mag: vec(new(big.Int).Abs(n).Text(2)).Val}
}

// paddedWith is the same vector with zeros on top.
func paddedWith(b api.Bits, zeros int) api.Bits {
	return api.Bits{Width: b.Width, Val: append(slices.Clone(b.Val), make(api.Nat, zeros)...)}
}

func same(a, b api.Bits) bool { return a.Width == b.Width && slices.Equal(a.Val, b.Val) }

// is holds an answer without an error against the bits that it should have, and asks for its form.
func is(t *testing.T, what string, got api.Bits, err api.Errno, want string) {
	t.Helper()
	switch {
	case err != api.OK:
		t.Errorf("%s: error %d; want %s", what, err, short(want))
	case !same(got, vec(want)):
		t.Errorf("%s: %s of %d bits in %d limbs; want %s of %d", what, short(row(got)), got.Width, len(got.Val), short(want), len(want))
	}
}

// fails asks for an error, beside which there is no vector.
func fails(t *testing.T, what string, got api.Bits, err, want api.Errno) {
	t.Helper()
	if err != want || got.Width != 0 || len(got.Val) != 0 {
		t.Errorf("%s: %d bits, %v, error %d; want error %d", what, got.Width, got.Val, err, want)
	}
}

// isInt holds a whole number against the one that it should be, and asks for its form.
func isInt(t *testing.T, what string, got api.Int, err api.Errno, want *big.Int) {
	t.Helper()
	should := intOf(want)
	if err != api.OK || got.Neg != should.Neg || !slices.Equal(got.Mag, should.Mag) {
		t.Errorf("%s: %v, error %d; want %s", what, got, err, short(want.String()))
	}
}

func short(s string) string {
	if len(s) > 80 {
		return s[:38] + ".." + s[len(s)-38:]
	}
	return s
}

// dice are numbers that look like any, the same ones each time.
type dice struct{ state uint64 }

func (d *dice) roll() uint64 {
	d.state += 0x9e3779b97f4a7c15
	z := d.state
	z = (z ^ z>>30) * 0xbf58476d1ce4e5b9
	z = (z ^ z>>27) * 0x94d049bb133111eb
	return z ^ z>>31
}

func (d *dice) below(n int) int { return int(d.roll() % uint64(n)) }

// bits are w of them, often in long runs, often few or many of them ones.
func (d *dice) bits(w int) string {
	out := make([]byte, 0, w)
	for kind := d.below(4); len(out) < w; {
		run, bit := 1, byte('0'+d.below(2))
		switch kind {
		case 1:
			run = 1 + d.below(70)
		case 2:
			run, bit = 1+d.below(200), '0'
			out = append(out, '1')
		}
		for range min(run, w-len(out)) {
			out = append(out, bit)
		}
	}
	return string(out[:w])
}

// widths are those at which limbs begin and end, and others between.
func widths() []int {
	return []int{1, 2, 3, 5, 7, 8, 31, 32, 33, 63, 64, 65, 100, 127, 128, 129, 191, 192, 200, 321}
}

// greatWidths are those at the most.
func greatWidths() []int { return []int{1000, 4032, 4033, 4095, api.MaxWidth} }

// allBits are all rows of w bits.
func allBits(w int) []string {
	var list []string
	for n := range 1 << w {
		list = append(list, small(w, int64(n)))
	}
	return list
}

// samples are rows of w bits: the ends of both orders and what lies beside them, one bit alone, shifts by about the width, and some others.
func samples(w int) []string {
	half, all := pow(w-1), pow(w)
	list := []string{
		small(w, 0), small(w, 1), small(w, 2), small(w, 3), small(w, 5), small(w, 7), small(w, 63), small(w, 64), small(w, 65), small(w, -1), small(w, -2), small(w, -3), small(w, -7),
		wide(w, half), wide(w, new(big.Int).Add(half, big.NewInt(1))), wide(w, new(big.Int).Sub(half, big.NewInt(1))),
		small(w, int64(w)-1), small(w, int64(w)), small(w, int64(w)+1), small(w, int64(w)/2), wide(w, new(big.Int).Div(all, big.NewInt(3))),
		wide(w, pow(w/2)), wide(w, new(big.Int).Sub(all, pow(w/2))), wide(w, new(big.Int).Add(pow(64), big.NewInt(1))), wide(w, pow(63)),
	}
	d := &dice{uint64(w)}
	for range 4 {
		list = append(list, d.bits(w))
	}
	slices.Sort(list)
	return slices.Compact(list)
}

// none are no vectors: the width is none, or the number too great for it.
func none() []api.Bits {
	return []api.Bits{
		{}, {Val: api.Nat{}}, {Val: api.Nat{0, 0}}, {Width: -1}, {Width: -64, Val: api.Nat{1}}, {Width: api.MaxWidth + 1}, {Width: api.MaxWidth + 1, Val: api.Nat{1}}, {Width: 1 << 40},
		{Width: 0, Val: api.Nat{1}}, {Width: 1, Val: api.Nat{2}}, {Width: 1, Val: api.Nat{0, 1}}, {Width: 4, Val: api.Nat{16}}, {Width: 63, Val: api.Nat{1 << 63}}, {Width: 64, Val: api.Nat{0, 1}},
		{Width: 64, Val: api.Nat{0, 0, 1, 0}}, {Width: 65, Val: api.Nat{0, 2}}, {Width: 128, Val: api.Nat{top, top, 1}},
		{Width: api.MaxWidth, Val: intOf(pow(api.MaxWidth)).Mag}, {Width: 4095, Val: intOf(pow(4095)).Mag}, {Width: api.MaxWidth, Val: slices.Repeat(api.Nat{top}, 5000)},
	}
}
