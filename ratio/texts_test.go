package ratio_test

import (
	"math/big"
	"slices"
	"strings"
	"testing"

	"tribunal/api"
	"tribunal/ratio"
)

// These are the tests of P3.4.

func checkText(t *testing.T, a api.Rat) {
	t.Helper()
	want := bigRat(a).RatString()
	s, err := ratio.Text(a)
	if s != want || err != api.OK {
		t.Errorf("Text(%s): %s, error %d", brief(a), short(s), err)
	}
	got, err := ratio.Parse(s)
	is(t, "Parse of Text", got, err, bigRat(a))
	zeros := strings.Repeat("0", 25)
	amount, below := strings.CutPrefix(bigRat(a).String(), "-")
	amount = zeros + strings.Replace(amount, "/", "/"+zeros, 1)
	if below {
		amount = "-" + amount
	}
	got, err = ratio.Parse(amount)
	is(t, "Parse of zeros ahead", got, err, bigRat(a))
	// As it stands, not in lowest terms.
	got, err = ratio.Parse(bigInt(a.Num).String() + "/" + bigNat(a.Den).String())
	is(t, "Parse of many terms", got, err, bigRat(a))
}

func TestTexts(t *testing.T) {
	for _, a := range slices.Concat(samples(), greats()) {
		checkText(t, a)
	}
	d := &dice{7}
	for range 1000 {
		checkText(t, d.fraction(6))
	}
}

func TestTextOfSome(t *testing.T) {
	for _, c := range []struct {
		a    api.Rat
		want string
	}{
		{ratOf(0, 1), "0"}, {ratOf(0, 5), "0"}, {by(minus(), api.Nat{1}), "0"}, {by(minus(0), api.Nat{4, 0}), "0"}, {ratOf(4, 2), "2"}, {ratOf(-4, 2), "-2"},
		{ratOf(6, 4), "3/2"}, {ratOf(-6, 4), "-3/2"}, {ratOf(1, 3), "1/3"}, {ratOf(-1, 10), "-1/10"}, {ratOf(7, 7), "1"}, {ratOf(-1, 1), "-1"},
		{by(plus(0, 1), api.Nat{3}), "18446744073709551616/3"}, {by(minus(5, 0), api.Nat{0, 1, 0}), "-5/18446744073709551616"},
	} {
		if got, err := ratio.Text(c.a); got != c.want || err != api.OK {
			t.Errorf("Text(%v): %q, error %d", c.a, got, err)
		}
	}
	turned, _ := ratio.Neg(ratOf(6, 4))
	if got, _ := ratio.Text(turned); got != "-3/2" {
		t.Errorf("Text of Neg of 6/4: %q", got)
	}
}

func TestParseOfSome(t *testing.T) {
	many := strings.Repeat("0", 1<<20)
	for _, c := range []struct {
		s    string
		n, d int64
	}{
		{"006/4", 3, 2}, {"0", 0, 1}, {"-0", 0, 1}, {"000", 0, 1}, {"0/5", 0, 1}, {"-0/7", 0, 1}, {"-00/007", 0, 1}, {"7", 7, 1}, {"-7", -7, 1}, {"-007", -7, 1}, {"1/1", 1, 1},
		{"6/3", 2, 1}, {"-6/4", -3, 2}, {"1/002", 1, 2}, {"-0012/0018", -2, 3}, {many + "6/" + many + "4", 3, 2}, {"-" + many, 0, 1},
	} {
		got, err := ratio.Parse(c.s)
		is(t, "Parse of "+short(c.s), got, err, big.NewRat(c.n, c.d))
	}
	for _, s := range []string{"1/0", "0/0", "-0/0", "-5/00", "1/" + many, most10() + "/0"} {
		got, err := ratio.Parse(s)
		fails(t, "Parse of "+short(s), got, err, api.ErrZero)
	}
}

func most10() string { return bigNat(most()).String() }

func TestParseOfNone(t *testing.T) {
	for _, s := range []string{
		"", "-", "/", "-/", "+1", "--1", "1-", " 1", "1 ", "- 1", "1/", "/1", "-/1", "1/-2", "1/+2", "1/ 2", "1 /2", "1/2 ", "1//2", "1/2/", "1/2/3", "/1/2", "1/-", "1/-0", "-1/-2",
		"1.5", "1e3", "a", "1/a", "0x1", "1/0x2", "1_0/2", "1/2_0", "1\n", "1/2\n", "\x00", "1/\x00", "\xff", "1/\xff", "\u0661", "1/\u0662", "1\u2044" + "2", "\u22121/2", "(/ 1 2)", "1\\2", "1:2",
	} {
		got, err := ratio.Parse(s)
		fails(t, "Parse of "+s, got, err, api.ErrDigits)
	}
	for b := range 256 {
		s, digit := string([]byte{byte(b)}), b >= '0' && b <= '9'
		for _, text := range []string{"1" + s, "-1" + s, "2/1" + s, "2/" + s + "1", s + "1/2"} {
			got, err := ratio.Parse(text)
			switch {
			case digit || s == "-" && text == "-1/2" || s == "/" && strings.Count(text, "/") == 1 && text[len(text)-1] != '/':
				want, _ := new(big.Rat).SetString(text)
				is(t, "Parse of "+text, got, err, want)
			default:
				fails(t, "Parse of "+text, got, err, api.ErrDigits)
			}
		}
	}
}

// Either number may have MaxRat limbs, as it stands; a text that is none is told first, a denominator of 0 last.
func TestParseAtTheMost(t *testing.T) {
	whole := new(big.Rat).SetInt(bigNat(most()))
	for s, want := range map[string]*big.Rat{
		most10(): whole, "-" + most10() + "/1": new(big.Rat).Neg(whole), "1/" + most10(): new(big.Rat).Inv(whole), most10() + "/" + most10(): big.NewRat(1, 1),
		"000" + most10() + "/0003": bigRat(ratOfThird()),
	} {
		got, err := ratio.Parse(s)
		is(t, "Parse of "+short(s), got, err, want)
	}
	for _, n := range []api.Nat{least(), off(least(), 1), ones(api.MaxRat + 1), ones(api.MaxLimbs), ones(api.MaxLimbs + 1), pow(64 * 6000)} {
		over := bigNat(n).String()
		for _, s := range []string{over, "-" + over, "00" + over, over + "/" + over, over + "/2", "1/" + over, "0/" + over, "-0/00" + over, over + "/0", over + "/00", over + "/1"} {
			got, err := ratio.Parse(s)
			fails(t, "Parse of "+short(s), got, err, api.ErrBig)
		}
		for _, s := range []string{over + "x", "x" + over, over + "/", "/" + over, over + "/-1", "1/-" + over, "x/" + over, over + "/1/", over + "/1x", "-/" + over, "1/" + over + "/1", "0/" + over + "-"} {
			got, err := ratio.Parse(s)
			fails(t, "Parse of "+short(s), got, err, api.ErrDigits)
		}
	}
}

func TestTextOfNoneAndLongOnes(t *testing.T) {
	for _, a := range none() {
		if s, err := ratio.Text(a); s != "" || err != api.ErrZero {
			t.Errorf("Text(%s): %q, error %d", brief(a), short(s), err)
		}
	}
	for _, a := range long() {
		if s, err := ratio.Text(a); s != "" || err != api.ErrBig {
			t.Errorf("Text(%s): %q, error %d", brief(a), short(s), err)
		}
	}
}
