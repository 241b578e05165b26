package lexis_test

import (
	"strings"
	"testing"

	"tribunal/api"
)

// P6.1: each byte behind each kind of token that nothing of its own ends: it goes on with the token, parts it, or is a fault.
func TestBytesBehind(t *testing.T) {
	goesOn := map[api.TokenKind]string{api.TDecimal: digits, api.THex: digits + "abcdefABCDEF", api.TBinary: "01", api.TSymbol: simples, api.TKeyword: simples}
	for _, one := range samples() {
		if !open(one.token) {
			continue
		}
		for n := range 256 {
			s := string([]byte{byte(n)})
			more := strings.Contains(goesOn[one.token.Kind], s) || one.token.Kind == api.TNumeral && one.text != "0" && strings.Contains(digits, s)
			longer := one.token
			longer.Text += s
			if one.token.Kind == api.THex {
				longer.Text = strings.ToLower(longer.Text)
			}
			switch {
			case more:
				isScan(t, one.text+s, at(longer, 1, 1))
				isScan(t, "("+one.text+s+"\n", at(token(api.TOpen, "("), 1, 1), at(longer, 1, 2))
			case strings.Contains(blanks+";", s):
				isScan(t, one.text+s, at(one.token, 1, 1))
			case s == "(":
				isScan(t, one.text+s, at(one.token, 1, 1), at(token(api.TOpen, s), 1, len(one.text)+1))
			case s == ")":
				isScan(t, one.text+s, at(one.token, 1, 1), at(token(api.TClose, s), 1, len(one.text)+1))
			case s == "|":
				isScan(t, one.text+s+"b"+s, at(one.token, 1, 1), at(barred("b"), 1, len(one.text)+1))
				noScan(t, one.text+s, 1, len(one.text)+1, api.ErrOpen)
			case s == `"`:
				isScan(t, one.text+s+"b"+s, at(one.token, 1, 1), at(token(api.TString, "b"), 1, len(one.text)+1))
				noScan(t, one.text+s, 1, len(one.text)+1, api.ErrOpen)
			default:
				noScan(t, one.text+s, 1, 1, api.ErrNumeral)
				noScan(t, "(\n "+one.text+s+" x", 2, 2, api.ErrNumeral)
			}
		}
	}
}

// P6.1: numerals and decimals.
func TestNumerals(t *testing.T) {
	for _, s := range []string{"0", "1", "9", "10", "90", "100", "1234567890", strings.Repeat("9", 5000)} {
		isScan(t, s, at(token(api.TNumeral, s), 1, 1))
		isScan(t, s+")", at(token(api.TNumeral, s), 1, 1), at(token(api.TClose, ")"), 1, len(s)+1))
	}
	for _, s := range []string{"0.0", "0.1", "0.00", "0.10", "1.0", "10.01", "9.9", "12.345", "1.000", "0." + strings.Repeat("0", 5000)} {
		isScan(t, s, at(token(api.TDecimal, s), 1, 1))
		isScan(t, s+"(", at(token(api.TDecimal, s), 1, 1), at(token(api.TOpen, "("), 1, len(s)+1))
	}
	for _, s := range []string{
		"00", "01", "007", "09", "000", "00.0", "01.5", "0a", "0x1", "0b1", "12a", "1_000", "1-1", "1+", "0-", "1e5", "1/2", "1:k", "1#x1", "1'", "1\x00", "1\x80", "1é", "0\\", "1[", "1`", "1,",
		"0.", "1.", "12.", "0..", "1..5", "1.a", "1.-5", "1.5.", "1.5.6", "1.5a", "1.5e3", "1.5:", "1.5#", "1.5'", "1.5\x7f", "1. 5", "1.(", "1.;", "1.\"5\"", "1.|5|", "1.\n",
	} {
		noScan(t, s, 1, 1, api.ErrNumeral)
		noScan(t, "x\n ("+s+")", 2, 3, api.ErrNumeral)
	}
	for _, s := range []string{".5", "-1", "+1", "-0", "-1.5", "-007", ".", "..", "a1", "_1", "/1"} {
		isScan(t, s, at(token(api.TSymbol, s), 1, 1))
	}
}

// P6.1: hexadecimals and binaries.
func TestPrefixed(t *testing.T) {
	for s, want := range map[string]string{"#x0": "0", "#x9": "9", "#xa": "a", "#xF": "f", "#xFf": "ff", "#xabcdef": "abcdef", "#xABCDEF": "abcdef", "#xAbCdEf0123456789": "abcdef0123456789", "#x00": "00", "#xb": "b", "#xb01": "b01"} {
		isScan(t, s, at(token(api.THex, want), 1, 1))
		isScan(t, s+"|z|", at(token(api.THex, want), 1, 1), at(barred("z"), 1, len(s)+1))
	}
	for s, want := range map[string]string{"#b0": "0", "#b1": "1", "#b00": "00", "#b0110": "0110"} {
		isScan(t, s, at(token(api.TBinary, want), 1, 1))
		isScan(t, s+"\"z\"", at(token(api.TBinary, want), 1, 1), at(token(api.TString, "z"), 1, len(s)+1))
	}
	for _, s := range []string{
		"#", "##", "# ", "#(", "#;", "#\"\"", "#||", "#\n", "#a", "#0", "#1", "#o17", "#X1", "#B1", "#-", "#.", "#\x00", "#é", "#:k",
		"#x", "#x ", "#x)", "#x;", "#x|1|", "#x\"1\"", "#xg", "#xG", "#x1g", "#xfG", "#x.", "#x1.5", "#x-1", "#x@", "#x`", "#x1:", "#x1'", "#x1\x00", "#x1#x2", "#xx1", "#x\xff",
		"#b", "#b\t", "#b(", "#b;", "#b|1|", "#b\"1\"", "#b2", "#b12", "#b02", "#b0a", "#ba", "#b/", "#b1.", "#b-1", "#b1:", "#b1'", "#b1\x01", "#b1#", "#bb1", "#b\x80",
	} {
		noScan(t, s, 1, 1, api.ErrNumeral)
		noScan(t, "x\n ("+s+")", 2, 3, api.ErrNumeral)
	}
}

// P6.1: symbols without bars and keywords.
func TestWords(t *testing.T) {
	for _, s := range []string{"a", "Z", "let", "_", "!", "as", "BINARY", "check-sat", "<=", "=>", "bvadd", "a.b", "x!0", "@a", ".a", "~", "a1", "/", "?", "$", "%", "^", "&", "*", "+", "-", "=", "<", ">", "--", strings.Repeat("x", 5000)} {
		isScan(t, s, at(token(api.TSymbol, s), 1, 1))
		isScan(t, ":"+s, at(token(api.TKeyword, s), 1, 1))
		isScan(t, s+" :"+s, at(token(api.TSymbol, s), 1, 1), at(token(api.TKeyword, s), 1, len(s)+2))
	}
	for _, s := range []string{"0", "007", "12a", "1.", "-"} {
		isScan(t, ":"+s, at(token(api.TKeyword, s), 1, 1))
	}
	for _, s := range []string{
		"a:", "a:b", "a#", "a#x1", "a'", "a,b", "a\\", "a[", "a{}", "a`", "a\x00", "a\x7f", "a\x80", "aé", "a\x0b", "let:", "-'",
		":", ": ", ": a", ":(", ":)", ":;", ":\"a\"", ":|a|", ":\n", "::", "::a", ":#", ":'", ":\\", ":\x00", ":\xff", ":a:", ":a:b", ":a#", ":a'", ":a\\", ":a\x1f", ":aé",
	} {
		noScan(t, s, 1, 1, api.ErrNumeral)
		noScan(t, "x\n ("+s+")", 2, 3, api.ErrNumeral)
	}
}
