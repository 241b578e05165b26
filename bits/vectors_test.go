package bits_test

import (
	"math"
	"math/big"
	"slices"
	"strconv"
	"testing"

	"tribunal/api"
	"tribunal/bits"
)

// These are the tests of P9.1.

func TestRight(t *testing.T) {
	for _, w := range slices.Concat(widths(), greatWidths()) {
		for _, a := range samples(w) {
			for _, b := range []api.Bits{vec(a), paddedWith(vec(a), 1), paddedWith(vec(a), 5000)} {
				if !bits.Right(b) {
					t.Errorf("Right of %s in %d limbs: false", short(a), len(b.Val))
				}
			}
		}
		over := intOf(pow(w)).Mag
		for _, n := range []api.Nat{over, append(slices.Clone(over), 0, 0), append(slices.Clone(over), 1), slices.Repeat(api.Nat{top}, 5000)} {
			if bits.Right(api.Bits{Width: w, Val: n}) {
				t.Errorf("Right of %d limbs, %d bits wide: true", len(n), w)
			}
		}
	}
	for _, b := range none() {
		if bits.Right(b) {
			t.Errorf("Right of %d bits, %d limbs: true", b.Width, len(b.Val))
		}
	}
}

func TestOf(t *testing.T) {
	numbers := []uint64{0, 1, 2, 3, 7, 8, 255, 256, 1<<31 - 1, 1 << 31, 1<<32 - 1, 1 << 32, 1<<63 - 1, 1 << 63, 1<<63 + 1, top - 1, top, 0xaaaaaaaaaaaaaaaa, 0x5555555555555555}
	for _, w := range slices.Concat(widths(), greatWidths()) {
		for _, n := range numbers {
			got, err := bits.Of(w, n)
			is(t, "Of("+strconv.Itoa(w)+", "+strconv.FormatUint(n, 10)+")", got, err, wide(w, new(big.Int).SetUint64(n)))
		}
	}
}

// wholes are numbers about those at which w bits wrap round, of both signs and also with many more bits than that.
func wholes(w int) []*big.Int {
	list := []*big.Int{new(big.Int)}
	for _, at := range []*big.Int{big.NewInt(0), pow(w - 1), pow(w), pow(w + 1), pow(w + 64), pow(3*w + 200), new(big.Int).Mul(pow(w), big.NewInt(1000003)), pow(64), pow(128)} {
		for off := int64(-3); off <= 3; off++ {
			n := new(big.Int).Add(at, big.NewInt(off))
			list = append(list, n, new(big.Int).Neg(n))
		}
	}
	d := &dice{uint64(w) + 99}
	for range 10 {
		n := unsigned(d.bits(1 + d.below(2*w+100)))
		list = append(list, n, new(big.Int).Neg(n))
	}
	return list
}

func TestFrom(t *testing.T) {
	for _, w := range slices.Concat(widths(), greatWidths()) {
		for _, n := range wholes(w) {
			for _, zeros := range []int{0, 1, 100} {
				in := intOf(n)
				in.Mag = append(in.Mag, make(api.Nat, zeros)...)
				got, err := bits.From(w, in)
				is(t, "From("+strconv.Itoa(w)+", "+short(n.String())+")", got, err, wide(w, n))
			}
		}
	}
}

// A 0 with a minus is 0, and a number may have more limbs than any layer below takes.
func TestFromOfOtherForms(t *testing.T) {
	long := slices.Repeat(api.Nat{top}, 3*api.MaxLimbs)
	for _, w := range slices.Concat(widths(), greatWidths()) {
		for _, zero := range []api.Int{{}, {Neg: true}, {Neg: true, Mag: api.Nat{}}, {Neg: true, Mag: make(api.Nat, 9000)}, {Mag: make(api.Nat, 9000)}} {
			got, err := bits.From(w, zero)
			is(t, "From of 0", got, err, small(w, 0))
		}
		got, err := bits.From(w, api.Int{Mag: long})
		is(t, "From of a long one", got, err, small(w, -1))
		got, err = bits.From(w, api.Int{Neg: true, Mag: long})
		is(t, "From of a long one below 0", got, err, small(w, 1))
		got, err = bits.From(w, api.Int{Neg: true, Mag: append(make(api.Nat, 2*api.MaxLimbs), 1)})
		is(t, "From of a multiple of 2^w", got, err, small(w, 0))
	}
}

func TestWidthsThatAreNone(t *testing.T) {
	for _, w := range []int{0, -1, -64, math.MinInt, api.MaxWidth + 1, api.MaxWidth + 64, 1 << 32, math.MaxInt} {
		for _, n := range []uint64{0, 1, top} {
			got, err := bits.Of(w, n)
			fails(t, "Of("+strconv.Itoa(w)+")", got, err, api.ErrWidth)
			got, err = bits.From(w, api.Int{Neg: n == 1, Mag: api.Nat{n, 0}})
			fails(t, "From("+strconv.Itoa(w)+")", got, err, api.ErrWidth)
		}
		got, err := bits.From(w, api.Int{})
		fails(t, "From("+strconv.Itoa(w)+")", got, err, api.ErrWidth)
	}
	for _, w := range []int{1, api.MaxWidth} {
		got, err := bits.Of(w, 1)
		is(t, "Of", got, err, small(w, 1))
		got, err = bits.From(w, api.Int{Neg: true, Mag: api.Nat{1}})
		is(t, "From", got, err, small(w, -1))
	}
}

func TestNumbers(t *testing.T) {
	for w := 1; w <= 6; w++ {
		for _, a := range allBits(w) {
			checkNumbers(t, a)
		}
	}
	for _, w := range slices.Concat(widths(), greatWidths()) {
		for _, a := range samples(w) {
			checkNumbers(t, a)
		}
	}
}

// checkNumbers asks for both numbers, and that the vector of each is the one that it came of.
func checkNumbers(t *testing.T, a string) {
	t.Helper()
	for _, zeros := range []int{0, 2, 5000} {
		b := paddedWith(vec(a), zeros)
		u, err := bits.Unsigned(b)
		isInt(t, "Unsigned of "+short(a), u, err, unsigned(a))
		s, err := bits.Signed(b)
		isInt(t, "Signed of "+short(a), s, err, signed(a))
		for _, n := range []api.Int{u, s} {
			back, err := bits.From(b.Width, n)
			is(t, "From of the number", back, err, a)
		}
	}
}

func TestNumbersOfNone(t *testing.T) {
	for _, b := range none() {
		for _, number := range []func(api.Bits) (api.Int, api.Errno){bits.Unsigned, bits.Signed} {
			if n, err := number(b); err != api.ErrBits || n.Neg || len(n.Mag) != 0 {
				t.Errorf("a number of %d bits, %d limbs: %v, error %d", b.Width, len(b.Val), n, err)
			}
		}
	}
}
