package whole_test

import (
	"math/big"
	"strings"
	"testing"

	"tribunal/api"
	"tribunal/whole"
)

// These are the tests of P2.5, and of P2.9 where it speaks of texts.

func checkText(t *testing.T, a api.Int) {
	t.Helper()
	want := toBig(a).String()
	if got, err := whole.Print(a); err != api.OK || got != want {
		t.Errorf("Print(%s): %.80q, error %d", brief(a), got, err)
	}
	amount, below := strings.CutPrefix(want, "-")
	for _, s := range []string{amount, "0" + amount, strings.Repeat("0", 100) + amount} {
		if below {
			s = "-" + s
		}
		got, err := whole.Parse(s)
		is(t, "Parse", got, err, toBig(a))
		if back, _ := whole.Print(got); back != want {
			t.Errorf("Print of Parse(%.80q): %.80q", s, back)
		}
	}
}

func TestPrintAndParse(t *testing.T) {
	d := &dice{9}
	for _, a := range samples() {
		checkText(t, a)
	}
	for range 1000 {
		checkText(t, d.number(d.below(8)))
	}
	power := big.NewInt(1)
	for range 100 { // a digit is won at each power
		for _, n := range []int64{-1, 0, 1} {
			a := off(fromBig(power), n)
			checkText(t, a)
			checkText(t, turned(a))
		}
		power.Mul(power, big.NewInt(10))
	}
}

func TestPrintOfSome(t *testing.T) {
	for _, c := range []struct {
		a    api.Int
		want string
	}{
		{plus(), "0"}, {minus(), "0"}, {minus(0, 0), "0"}, {padded(minus(), 5000), "0"}, {minus(5, 0), "-5"}, {plus(10), "10"}, {minus(10), "-10"},
		{plus(0, 1), "18446744073709551616"}, {minus(0, 1), "-18446744073709551616"}, {minus(1 << 63), "-9223372036854775808"},
	} {
		if got, err := whole.Print(c.a); got != c.want || err != api.OK {
			t.Errorf("Print(%v): %q, error %d", c.a, got, err)
		}
	}
}

func TestParseOfSome(t *testing.T) {
	for _, c := range []struct {
		s    string
		want int64
	}{
		{"0", 0}, {"-0", 0}, {"000", 0}, {"-000", 0}, {"7", 7}, {"-7", -7}, {"007", 7}, {"-007", -7}, {"42", 42}, {"-1000", -1000},
		{"9223372036854775807", 1<<63 - 1}, {"-9223372036854775808", -1 << 63}, {strings.Repeat("0", 1<<20) + "3", 3}, {"-" + strings.Repeat("0", 1<<20), 0},
	} {
		got, err := whole.Parse(c.s)
		is(t, "Parse", got, err, big.NewInt(c.want))
	}
}

func TestParseOfNone(t *testing.T) {
	for _, s := range []string{
		"", "-", "+", "+1", "--1", "-+1", "+-1", "1-", "-1-", "1-1", " 1", "1 ", "- 1", "-1 ", " -1", "1a", "a", "-a", "f", "0x1", "-0x1", "1_0", "1,0", "1.0", "1e3",
		"1\n", "\x001", "1\x00", "\xff", "-\xff", "\u0661", "-\u0661", "\u22121", "\u20131", "1/", "1:", "(- 1)", "\xff-1",
	} {
		got, err := whole.Parse(s)
		fails(t, "Parse of "+s, got, err, api.ErrDigits)
	}
	for b := range 256 {
		s := string([]byte{byte(b)})
		digit := b >= '0' && b <= '9'
		for _, text := range []string{s, "1" + s, "-" + s, "-1" + s} {
			got, err := whole.Parse(text)
			if digit {
				want, _ := new(big.Int).SetString(text, 10)
				is(t, "Parse of "+text, got, err, want)
			} else {
				fails(t, "Parse of "+text, got, err, api.ErrDigits)
			}
		}
	}
}

func TestTextsAtTheMost(t *testing.T) {
	checkText(t, most())
	checkText(t, turned(most()))
	checkText(t, padded(turned(most()), 2))
	for _, a := range []api.Int{least(), turned(least()), padded(least(), 2), turned(off(least(), 1)), pow(2 * mostBits)} {
		if s, err := whole.Print(a); s != "" || err != api.ErrBig {
			t.Errorf("Print of a long one: %.80q, error %d", s, err)
		}
		long := toBig(a).String()
		got, err := whole.Parse(long)
		fails(t, "Parse of a long one", got, err, api.ErrBig)
		for _, s := range []string{long + "x", "-" + long + "-", " " + long, long + " "} {
			got, err := whole.Parse(s)
			fails(t, "Parse of a long one that is none", got, err, api.ErrDigits)
		}
	}
	got, err := whole.Parse("-" + strings.Repeat("9", 1<<20))
	fails(t, "Parse of many digits", got, err, api.ErrBig)
	got, err = whole.Parse("-" + strings.Repeat("9", 1<<20) + "-")
	fails(t, "Parse of many digits that are none", got, err, api.ErrDigits)
}
