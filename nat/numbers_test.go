package nat_test

import (
	"slices"
	"testing"

	"tribunal/api"
	"tribunal/nat"
)

// These are the tests of P1.1.

func TestOf(t *testing.T) {
	for _, n := range []uint64{0, 1, 2, 1 << 32, 1 << 63, top - 1, top} {
		is(t, "Of", nat.Of(n), api.OK, api.Nat{n})
	}
}

func TestSmall(t *testing.T) {
	for _, c := range []struct {
		a    api.Nat
		n    uint64
		fits bool
	}{
		{nil, 0, true},
		{api.Nat{}, 0, true},
		{api.Nat{0}, 0, true},
		{api.Nat{0, 0}, 0, true},
		{api.Nat{7}, 7, true},
		{api.Nat{top}, top, true},
		{api.Nat{top, 0, 0}, top, true},
		{padded(nil, 5000), 0, true},
		{padded(api.Nat{3}, 5000), 3, true},
		{api.Nat{0, 1}, 0, false},
		{api.Nat{5, 1}, 0, false},
		{api.Nat{5, 0, 1}, 0, false},
		{api.Nat{5, 1, 0}, 0, false},
		{most(), 0, false},
		{least(), 0, false},
	} {
		if n, fits := nat.Small(c.a); n != c.n || fits != c.fits {
			t.Errorf("Small(%s): %d, %t", brief(c.a), n, fits)
		}
	}
}

func TestCmp(t *testing.T) {
	list := samples()
	list = append(list, most(), padded(most(), 2), least(), padded(least(), 2), ones(api.MaxLimbs+1), pow(mostBits+100))
	for _, a := range list {
		for _, b := range list {
			if got, want := nat.Cmp(a, b), toBig(a).Cmp(toBig(b)); got != want {
				t.Errorf("Cmp(%s, %s): %d; want %d", brief(a), brief(b), got, want)
			}
		}
	}
	for _, c := range []struct {
		a, b api.Nat
		want int
	}{
		{api.Nat{1, 2}, api.Nat{2, 1}, 1},
		{api.Nat{2, 1}, api.Nat{1, 2}, -1},
		{api.Nat{3, 1, 1}, api.Nat{4, 1, 1}, -1},
		{api.Nat{9}, api.Nat{0, 1}, -1},
		{api.Nat{9, 0}, api.Nat{9}, 0},
		{nil, api.Nat{0, 0}, 0},
	} {
		if got := nat.Cmp(c.a, c.b); got != c.want {
			t.Errorf("Cmp(%v, %v): %d; want %d", c.a, c.b, got, c.want)
		}
	}
}

func TestLen(t *testing.T) {
	list := append(samples(), most(), least(), padded(most(), 7), ones(api.MaxLimbs+1), pow(mostBits+100))
	for _, a := range list {
		if got, want := nat.Len(a), toBig(a).BitLen(); got != want {
			t.Errorf("Len(%s): %d; want %d", brief(a), got, want)
		}
	}
	for i := range 200 {
		if got := nat.Len(pow(i)); got != i+1 {
			t.Errorf("Len(2^%d): %d", i, got)
		}
	}
	if nat.Len(api.Nat{0, 1, 0}) != 65 || nat.Len(nil) != 0 || nat.Len(padded(nil, 5000)) != 0 {
		t.Error("Len with zeros on top")
	}
}

func TestBit(t *testing.T) {
	list := append(samples(), most(), least(), ones(api.MaxLimbs+1))
	places := []int{0, 1, 2, 31, 62, 63, 64, 65, 127, 128, 191, 192, 299, 300, 301, 1000, mostBits - 1, mostBits, mostBits + 1, 1<<62 + 1, 1<<63 - 1}
	for _, a := range list {
		for _, i := range places {
			want := i < 64*len(a) && toBig(a).Bit(i) == 1
			if got := nat.Bit(a, i); got != want {
				t.Errorf("Bit(%s, %d): %t", brief(a), i, got)
			}
		}
		for _, i := range []int{-1, -63, -64, -65, -1 << 63} {
			if nat.Bit(a, i) {
				t.Errorf("Bit(%s, %d): true", brief(a), i)
			}
		}
	}
	if !nat.Bit(api.Nat{0, 1}, 64) || nat.Bit(api.Nat{0, 1}, 63) || nat.Bit(api.Nat{0, 1}, 0) {
		t.Error("Bit of 2^64")
	}
}

// A number is the sum of its limbs, the lowest first; the form it comes in does not matter.
func TestFormsOfOneNumber(t *testing.T) {
	for _, a := range samples() {
		b := padded(a, 3)
		if nat.Cmp(a, b) != 0 || nat.Len(a) != nat.Len(b) {
			t.Errorf("%s with zeros on top is another number", brief(a))
		}
		x, err := nat.Add(a)
		y, err2 := nat.Add(b)
		if err != err2 || !slices.Equal(x, y) {
			t.Errorf("%s with zeros on top has another answer", brief(a))
		}
	}
}
