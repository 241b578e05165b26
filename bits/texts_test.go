package bits_test

import (
	"math"
	"math/big"
	"slices"
	"strconv"
	"strings"
	"testing"

	"tribunal/api"
	"tribunal/bits"
)

// These are the tests of P9.3.

func checkTexts(t *testing.T, a string) {
	t.Helper()
	for _, zeros := range []int{0, 3} {
		s, err := bits.Text(paddedWith(vec(a), zeros), 2)
		if s != "#b"+a || err != api.OK {
			t.Errorf("Text(%s, 2): %s, error %d", short(a), short(s), err)
		}
		back, err := bits.Parse(s)
		is(t, "Parse of "+short(s), back, err, a)
		s, err = bits.Text(paddedWith(vec(a), zeros), 16)
		if len(a)%4 != 0 {
			if s != "" || err != api.ErrBase {
				t.Errorf("Text(%s, 16): %s, error %d", short(a), short(s), err)
			}
			continue
		}
		if want := "#x" + hexadecimal(a); s != want || err != api.OK {
			t.Errorf("Text(%s, 16): %s, error %d; want %s", short(a), short(s), err, short(want))
		}
		for _, text := range []string{s, "#x" + strings.ToUpper(s[2:])} {
			back, err = bits.Parse(text)
			is(t, "Parse of "+short(text), back, err, a)
		}
	}
}

// hexadecimal writes four bits a digit.
func hexadecimal(a string) string {
	var out strings.Builder
	for ; a != ""; a = a[4:] {
		out.WriteByte("0123456789abcdef"[unsigned(a[:4]).Int64()])
	}
	return out.String()
}

func TestTexts(t *testing.T) {
	for w := 1; w <= 8; w++ {
		for _, a := range allBits(w) {
			checkTexts(t, a)
		}
	}
	for _, w := range slices.Concat(widths(), greatWidths(), []int{4, 12, 60, 68, 256, 4088, 4092}) {
		for _, a := range samples(w) {
			checkTexts(t, a)
		}
	}
}

func TestSomeTexts(t *testing.T) {
	for _, c := range []struct {
		b    api.Bits
		base int
		want string
	}{
		{vec("10"), 2, "#b10"}, {vec("0"), 2, "#b0"}, {vec("0000"), 16, "#x0"}, {vec("00000000"), 16, "#x00"}, {vec("11001000"), 16, "#xc8"}, {vec("00001010"), 16, "#x0a"},
		{vec("00001010"), 2, "#b00001010"}, {api.Bits{Width: 4, Val: api.Nat{0, 0}}, 2, "#b0000"}, {api.Bits{Width: 68, Val: api.Nat{1, 1}}, 16, "#x10000000000000001"},
	} {
		if s, err := bits.Text(c.b, c.base); s != c.want || err != api.OK {
			t.Errorf("Text(%v, %d): %s, error %d; want %s", c.b, c.base, s, err, c.want)
		}
	}
	for s, want := range map[string]string{
		"#b10": "10", "#b0": "0", "#b1": "1", "#b0010": "0010", "#b000": "000", "#xF": "1111", "#xf": "1111", "#x0": "0000", "#x00": "00000000", "#xaA": "10101010",
		"#xbB": "10111011", "#xcC": "11001100", "#xdD": "11011101", "#xeE": "11101110", "#x19": "00011001", "#x10": "00010000", "#x0123456789abcdefABCDEF": wide(88, bigHex("0123456789abcdefABCDEF")),
	} {
		got, err := bits.Parse(s)
		is(t, "Parse of "+s, got, err, want)
	}
}

// Of several errors the base that is none comes first, then what is no vector, then a width that has no such digits.
func TestTextFails(t *testing.T) {
	expect := func(b api.Bits, base int, want api.Errno) {
		t.Helper()
		if s, err := bits.Text(b, base); s != "" || err != want {
			t.Errorf("Text of %d bits, %d limbs, base %d: %s, error %d; want error %d", b.Width, len(b.Val), base, short(s), err, want)
		}
	}
	for _, base := range []int{0, 1, 3, 4, 8, 10, 15, 17, 32, -2, -16, math.MinInt, math.MaxInt} {
		for _, b := range append(none(), vec("0"), vec("0101"), vec(small(200, 5))) {
			expect(b, base, api.ErrBase)
		}
	}
	for _, b := range none() {
		expect(b, 2, api.ErrBits)
		expect(b, 16, api.ErrBits)
	}
	for _, w := range []int{1, 2, 3, 5, 6, 7, 63, 65, 66, 67, 4093, 4094, 4095} {
		expect(vec(small(w, 1)), 16, api.ErrBase)
	}
}

func TestParseOfNone(t *testing.T) {
	for _, s := range []string{
		"", "#", "b", "x", "#b", "#x", "1", "0", "10", "b1", "x1", "0b1", "0x1", "#B1", "#X1", "#o7", "#d9", "#1", "##b1", "#b#b1", "#bx1", "#xx1", "#xb#", "#b2", "#b1a", "#bA", "#xg", "#xG", "#x1g", "#x-1",
		"#b-1", "#b+1", "#b 1", "#b1 ", " #b1", "# b1", "#b1\n", "\n#b1", "#b1_0", "#x1_0", "#x 1", "#x1 ", "#x#1", "#b\x00", "#b1\x00", "\x00", "#x\xff", "#b\xff1", "#b\u0661", "#x\uff11", "#b1#b1", "(_ bv1 4)", "|#b1|", "bv1",
	} {
		got, err := bits.Parse(s)
		fails(t, "Parse of "+strconv.Quote(s), got, err, api.ErrDigits)
	}
	for b := range 256 {
		c := string([]byte{byte(b)})
		for _, s := range []string{"#b" + c, "#b0" + c, "#b" + c + "1"} {
			got, err := bits.Parse(s)
			if c == "0" || c == "1" {
				is(t, "Parse of "+s, got, err, s[2:])
			} else {
				fails(t, "Parse of "+strconv.Quote(s), got, err, api.ErrDigits)
			}
		}
		for _, s := range []string{"#x" + c, "#x0" + c, "#x" + c + "1"} {
			got, err := bits.Parse(s)
			if strings.Contains("0123456789abcdefABCDEF", c) {
				is(t, "Parse of "+s, got, err, wide(4*len(s)-8, bigHex(s[2:])))
			} else {
				fails(t, "Parse of "+strconv.Quote(s), got, err, api.ErrDigits)
			}
		}
		if c != "b" && c != "x" {
			got, err := bits.Parse("#" + c + "1")
			fails(t, "Parse of "+strconv.Quote("#"+c+"1"), got, err, api.ErrDigits)
		}
		if c != "#" {
			got, err := bits.Parse(c + "b1")
			fails(t, "Parse of "+strconv.Quote(c+"b1"), got, err, api.ErrDigits)
		}
	}
}

func bigHex(digits string) *big.Int {
	n, _ := new(big.Int).SetString(digits, 16)
	return n
}

// A text of 4098 bytes may be one; of a longer one nothing else is told, and digits come ahead of the width.
func TestParseAtTheMost(t *testing.T) {
	most := api.MaxWidth
	d := &dice{5}
	for range 5 {
		a := d.bits(most)
		got, err := bits.Parse("#b" + a)
		is(t, "Parse of 4098 bytes", got, err, a)
		got, err = bits.Parse("#b" + a[1:])
		is(t, "Parse of 4097 bytes", got, err, a[1:])
		got, err = bits.Parse("#x" + hexadecimal(a))
		is(t, "Parse of 1024 digits", got, err, a)
		got, err = bits.Parse("#x" + hexadecimal(a[4:]))
		is(t, "Parse of 1023 digits", got, err, a[4:])
	}
	for _, s := range []string{
		"#b" + strings.Repeat("0", most+1), "#b" + strings.Repeat("1", most+1), "#x" + strings.Repeat("0", most+1), "#x" + strings.Repeat("f", 1<<20), strings.Repeat("x", most+3),
		"#b" + strings.Repeat("2", most+1), strings.Repeat(" ", most+3), "#b" + strings.Repeat("0", 1<<20) + "2", "#x" + strings.Repeat("\xff", most+1),
	} {
		got, err := bits.Parse(s)
		fails(t, "Parse of "+strconv.Itoa(len(s))+" bytes", got, err, api.ErrLong)
	}
	for _, many := range []int{most/4 + 1, most/4 + 2, most/2 + 1, most - 1, most} {
		for _, s := range []string{strings.Repeat("0", many), strings.Repeat("f", many), strings.Repeat("0", many-1) + "A"} {
			got, err := bits.Parse("#x" + s)
			fails(t, "Parse of "+strconv.Itoa(many)+" hexadecimal digits", got, err, api.ErrWidth)
		}
		for _, s := range []string{strings.Repeat("0", many-1) + "g", "-" + strings.Repeat("0", many-1), strings.Repeat("f", many-1) + "\xff"} {
			got, err := bits.Parse("#x" + s)
			fails(t, "Parse of "+strconv.Itoa(many)+" digits, one none", got, err, api.ErrDigits)
		}
	}
	for _, s := range []string{strings.Repeat("0", most+2), "#b" + strings.Repeat("0", most-1) + "2", "#b" + strings.Repeat("0", most-1) + "a"} {
		got, err := bits.Parse(s)
		fails(t, "Parse of 4098 bytes", got, err, api.ErrDigits)
	}
}
