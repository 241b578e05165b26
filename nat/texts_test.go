package nat_test

import (
	"math"
	"strings"
	"testing"

	"tribunal/api"
	"tribunal/nat"
)

// These are the tests of P1.5.

var bases = []int{2, 10, 16}

var noBases = []int{math.MinInt, -10, -2, -1, 0, 1, 3, 4, 8, 9, 11, 15, 17, 32, 36, 64, math.MaxInt}

func checkText(t *testing.T, a api.Nat, base int) {
	t.Helper()
	want := toBig(a).Text(base)
	if got, err := nat.Text(a, base); err != api.OK || got != want {
		t.Errorf("Text(%s, %d): %.80q, error %d", brief(a), base, got, err)
	}
	for _, s := range []string{want, "0" + want, strings.Repeat("0", 100) + want, strings.ToUpper(want)} {
		got, err := nat.Parse(s, base)
		is(t, "Parse", got, err, a)
	}
}

func TestTextAndParse(t *testing.T) {
	d := &dice{10}
	for _, base := range bases {
		for _, a := range samples() {
			checkText(t, a, base)
		}
		for range 500 {
			checkText(t, d.nat(d.below(8)), base)
		}
	}
}

// At each power of the base a digit is won; chunks of digits meet at some of them.
func TestTextAroundPowers(t *testing.T) {
	for _, base := range bases {
		power := nat.Of(1)
		for i := range 140 {
			below, _ := nat.Sub(power, nat.Of(1))
			checkText(t, power, base)
			checkText(t, below, base)
			if s, _ := nat.Text(power, base); s != "1"+strings.Repeat("0", i) {
				t.Errorf("Text(%d^%d, %d): %q", base, i, base, s)
			}
			power, _ = nat.Mul(power, nat.Of(uint64(base)))
		}
	}
}

func TestTextOfSome(t *testing.T) {
	for _, c := range []struct {
		a    api.Nat
		base int
		want string
	}{
		{nil, 2, "0"}, {nil, 10, "0"}, {api.Nat{0, 0}, 16, "0"}, {padded(nil, 5000), 10, "0"},
		{api.Nat{5}, 2, "101"}, {api.Nat{10, 0}, 10, "10"}, {api.Nat{0xabcdef}, 16, "abcdef"},
		{api.Nat{0, 1}, 16, "10000000000000000"}, {api.Nat{0, 1}, 10, "18446744073709551616"},
		{api.Nat{1, 1}, 2, "1" + strings.Repeat("0", 63) + "1"},
	} {
		if got, err := nat.Text(c.a, c.base); got != c.want || err != api.OK {
			t.Errorf("Text(%v, %d): %q, error %d", c.a, c.base, got, err)
		}
	}
}

func TestTextAtTheMost(t *testing.T) {
	for _, base := range bases {
		checkText(t, most(), base)
		checkText(t, padded(pow(mostBits-1), 2), base)
		for _, a := range []api.Nat{least(), padded(least(), 1), pow(mostBits + 64)} {
			if s, err := nat.Text(a, base); s != "" || err != api.ErrBig {
				t.Errorf("Text of a long one, %d: %.80q, error %d", base, s, err)
			}
			long := toBig(a).Text(base)
			for _, s := range []string{long, "00" + long, long + "0"} {
				got, err := nat.Parse(s, base)
				fails(t, "Parse of a long one", got, err, api.ErrBig)
			}
			for _, s := range []string{long + "g", "-" + long, long + " "} {
				got, err := nat.Parse(s, base)
				fails(t, "Parse of a long one that is none", got, err, api.ErrDigits)
			}
		}
	}
	got, err := nat.Parse(strings.Repeat("0", 1<<20), 10)
	is(t, "Parse of zeros", got, err, nil)
	got, err = nat.Parse(strings.Repeat("0", 1<<20)+"17", 10)
	is(t, "Parse with zeros ahead", got, err, nat.Of(17))
	got, err = nat.Parse(strings.Repeat("9", 1<<20), 10)
	fails(t, "Parse of many digits", got, err, api.ErrBig)
}

func TestParseOfSome(t *testing.T) {
	for _, c := range []struct {
		s    string
		base int
		want uint64
	}{
		{"0", 2, 0}, {"0", 10, 0}, {"000", 16, 0}, {"1", 2, 1}, {"0101", 2, 5}, {"007", 10, 7}, {"42", 10, 42},
		{"00fF", 16, 255}, {"aBcDeF", 16, 0xabcdef}, {"9", 10, 9}, {"10", 16, 16}, {"10", 2, 2},
		{"18446744073709551615", 10, top}, {"FFFFFFFFFFFFFFFF", 16, top}, {strings.Repeat("1", 64), 2, top},
	} {
		got, err := nat.Parse(c.s, c.base)
		is(t, "Parse "+c.s, got, err, nat.Of(c.want))
	}
}

func TestParseOfNone(t *testing.T) {
	for _, s := range []string{
		"", " ", "-", "+", "-1", "+1", " 1", "1 ", "1 1", "1_0", "1,0", "1.0", "1e3", "1\n", "\x001", "1\x00", "0x1", "0b1", "#b1", "1g", "G", "1:", "1/", "1@", "1`",
		"\xff", "1\xff", "\u0660", "1\u0131", "\u0130", "\uff11", "1\ufffd", "\U00010030", "\u0430",
	} {
		for _, base := range bases {
			got, err := nat.Parse(s, base)
			if base == 16 && s == "1e3" {
				is(t, "Parse", got, err, nat.Of(0x1e3))
			} else if base == 16 && s == "0b1" {
				is(t, "Parse", got, err, nat.Of(0xb1))
			} else {
				fails(t, "Parse of "+s, got, err, api.ErrDigits)
			}
		}
	}
	for _, c := range []struct {
		s    string
		base int
	}{{"2", 2}, {"12", 2}, {"21", 2}, {"9", 2}, {"a", 2}, {"12a", 10}, {"a", 10}, {"A1", 10}, {"F", 10}, {"1f", 10}, {"g", 16}, {"fg", 16}} {
		got, err := nat.Parse(c.s, c.base)
		fails(t, "Parse of "+c.s, got, err, api.ErrDigits)
	}
}

// Each byte for itself: only those of the base are digits.
func TestParseOfBytes(t *testing.T) {
	const digits = "0123456789abcdefABCDEF"
	for _, base := range bases {
		for b := range 256 {
			at := strings.IndexByte(digits, byte(b))
			if at > 15 {
				at -= 6
			}
			got, err := nat.Parse("1"+string([]byte{byte(b)}), base)
			if at >= 0 && at < base {
				is(t, "Parse", got, err, nat.Of(uint64(base+at)))
			} else {
				fails(t, "Parse", got, err, api.ErrDigits)
			}
		}
	}
}

// The base comes ahead of all else.
func TestNoBase(t *testing.T) {
	for _, base := range noBases {
		for _, a := range []api.Nat{nil, {1}, most(), least(), pow(mostBits + 64)} {
			if s, err := nat.Text(a, base); s != "" || err != api.ErrBase {
				t.Errorf("Text(%s, %d): %.80q, error %d", brief(a), base, s, err)
			}
		}
		for _, s := range []string{"", "0", "11", "x", "-1", strings.Repeat("1", mostBits+1)} {
			got, err := nat.Parse(s, base)
			fails(t, "Parse without a base", got, err, api.ErrBase)
		}
	}
}
