package lexis_test

import (
	"strings"
	"testing"

	"tribunal/api"
	"tribunal/lexis"
	"tribunal/sort"
)

// P6.2: a symbol is written as sort has it, whatever it is.
func TestSymbol(t *testing.T) {
	for s, want := range map[string]string{
		"let": "|let|", "a.b": "a.b", "x": "x", "": "||", "a b": "|a b|", "0": "|0|", "-1": "-1", "@a": "|@a|", ".a": "|.a|", "|": "|||", "|a|": "||a||", "a\\b": "|a\\b|", "a\"b": "|a\"b|", "é": "|é|", "\x00": "|\x00|",
		"_": "|_|", "!": "|!|", "assert": "|assert|", "Assert": "Assert", ":k": "|:k|", "#x1": "|#x1|", "(": "|(|", "a\nb": "|a\nb|",
		strings.Repeat("x", 200): strings.Repeat("x", 200), strings.Repeat("x", 201): "|" + strings.Repeat("x", 201) + "|",
	} {
		if got := lexis.Symbol(s); got != want {
			t.Errorf("Symbol(%q): %q; want %q", s, got, want)
		}
	}
	for _, s := range append(strings.Fields("as exists forall match par reset get-value declare-fun set-logic pop NUMERAL"), strings.Repeat("|", api.MaxText+1)) {
		if got := lexis.Symbol(s); got != "|"+s+"|" {
			t.Errorf("Symbol(%q): %q", brief(s), brief(got))
		}
	}
	for b := range 256 {
		for _, s := range []string{string([]byte{byte(b)}), string([]byte{'a', byte(b)}), string([]byte{byte(b), 'a'})} {
			if got := lexis.Symbol(s); got != sort.Quote(s) {
				t.Errorf("Symbol(%q): %q; want %q", s, got, sort.Quote(s))
			}
		}
	}
}

func isString(t *testing.T, s, want string) {
	t.Helper()
	if got, e := lexis.String(s); got != want || e != api.OK {
		t.Errorf("String(%q): %q, error %d; want %q", brief(s), brief(got), e, brief(want))
	}
}

func noString(t *testing.T, s string) {
	t.Helper()
	if got, e := lexis.String(s); got != "" || e != api.ErrByte {
		t.Errorf("String(%q): %q, error %d", brief(s), brief(got), e)
	}
}

// P6.2: texts, each byte in them, at each end.
func TestString(t *testing.T) {
	for s, want := range map[string]string{"": `""`, `a"b`: `"a""b"`, `"`: `""""`, `""`: `""""""`, `"a"`: `"""a"""`, "a b": `"a b"`, "\n": "\"\n\"", "a\r\n\tb": "\"a\r\n\tb\"", `\`: `"\"`, `|`: `"|"`, "é": `"é"`, "\xff\x80": "\"\xff\x80\"", ";": `";"`} {
		isString(t, s, want)
	}
	for n := range 256 {
		b := byte(n)
		for _, s := range []string{string([]byte{b}), string([]byte{'a', b}), string([]byte{b, 'a'}), string([]byte{'"', b, '"'})} {
			if allows(b) {
				isString(t, s, `"`+strings.Join(strings.Split(s, `"`), `""`)+`"`)
			} else {
				noString(t, s)
			}
		}
	}
	long := strings.Repeat("x", 2*api.MaxText)
	isString(t, long, `"`+long+`"`)
	noString(t, long+"\x00")
	noString(t, "\x7f"+long)
}

// P6.2: each kind of token, with whatever Line and Column.
func TestWrite(t *testing.T) {
	for _, one := range samples() {
		for _, place := range [][2]int{{0, 0}, {1, 1}, {3, 17}, {-1, -5}, {1, 0}, {int(^uint(0) >> 1), -int(^uint(0)>>1) - 1}} {
			isWritten(t, at(one.token, place[0], place[1]), one.text)
		}
	}
	for _, s := range []string{"let", "as", "_", "!", "check-sat", "@x", ".x", ".", "-1"} {
		isWritten(t, token(api.TSymbol, s), s)
		isWritten(t, token(api.TKeyword, s), ":"+s)
		isWritten(t, barred(s), "|"+s+"|")
	}
}

// P6.2: what Scan gives of no text, of each kind.
func TestNoTokenOfAKind(t *testing.T) {
	for kind, texts := range map[api.TokenKind][]string{
		api.TOpen:    {"", ")", "((", " (", "( ", "()", "x", "|", "(;"},
		api.TClose:   {"", "(", "))", " )", ") ", ")(", "0", "\""},
		api.TNumeral: {"", "00", "07", "007", "01", "1.5", "1.", "-1", "+1", " 1", "1 ", "1a", "a", "1 2", "#x1", "#b1", "x", "(", "1;", "\"1\"", "|1|", ":1", "1\n", "\n1", ";\n1", "1e5", "\x00", "\xb2"},
		api.TDecimal: {"", "1", "0", "1.", ".5", "00.5", "01.5", "-1.5", "1.5.6", "1.5 ", " 1.5", "1. 5", "1,5", "1.a", "1.5a", ".", "0.", "1..5", "x", "1.5;", "\n1.5"},
		api.THex:     {"", "F", "Ff", "aB", "g", "#xff", "#", "x1", "1.5", " 1", "1 ", "-1", "0x1", "1;", "f\n", "|", "\x00", "1 #x2"},
		api.TBinary:  {"", "2", "12", "#b1", "b1", "a", " 1", "1 ", "0.1", "-1", "1;", "0\n", "x", "1 #b0"},
		api.TString:  {"\x00", "a\x1fb", "\x7f", "a\x0b", "\x0c", "\"\x01\"", "\x08"},
		api.TSymbol:  {"", "1", "1a", "0", "007", "a b", " a", "a ", "a:b", ":a", "a;", "a;b", "a\n", "\na", "|a|", "||", "|", "a|b|", "(", ")", "a(", "\"a\"", "\"", "#x1", "#", "a'", "'", "é", "a\\", "\x00", "a\x7f", ";\na", "a\xff"},
		api.TKeyword: {"", ":", ":a", "a b", " a", "a ", "a:", "a;", "a\n", "|a|", "(", "a)", "\"", "#", "'", "é", "\\", "\x00", "a\x80", "a :b"},
	} {
		for _, s := range texts {
			noToken(t, token(kind, s))
		}
	}
	for _, s := range []string{"|", "a|", "|a", "a|b", "||", "\\", "a\\b", "a\\", "\x00", "a\x7fb", "\x1f", "\x0b", "|a|", "a||b", "a| |b", "a|;b"} {
		noToken(t, barred(s))
	}
}

// P6.2: a Kind that is none; Quoted of what is no symbol.
func TestNoKind(t *testing.T) {
	for _, kind := range []api.TokenKind{0, -1, 10, 11, 12, 77, 256, 1 << 20, -1 << 31, api.TokenKind(int(^uint(0) >> 1)), api.TokenKind(-int(^uint(0)>>1) - 1)} {
		for _, s := range []string{"", "x", "(", "12", "ff", " "} {
			noToken(t, token(kind, s))
			noToken(t, api.Token{Kind: kind, Text: s, Quoted: true})
		}
	}
	noToken(t, api.Token{})
	for _, one := range samples() {
		if one.token.Kind != api.TSymbol {
			one.token.Quoted = true
			noToken(t, one.token)
		}
	}
}

// P6.2: which tokens a text of MaxText bytes may hold, and which no text may.
func TestLengthOfTokens(t *testing.T) {
	const most = api.MaxText
	x, ones, marks := strings.Repeat("x", most+2), strings.Repeat("1", most+2), strings.Repeat("\"", most)
	isWritten(t, token(api.TNumeral, ones[2:]), ones[2:])
	isWritten(t, token(api.TDecimal, "1."+ones[4:]), "1."+ones[4:])
	isWritten(t, token(api.THex, ones[4:]), "#x"+ones[4:])
	isWritten(t, token(api.TBinary, ones[4:]), "#b"+ones[4:])
	isWritten(t, token(api.TString, x[4:]), "\""+x[4:]+"\"")
	isWritten(t, token(api.TString, marks[:most/2-1]), marks)
	isWritten(t, token(api.TSymbol, x[2:]), x[2:])
	isWritten(t, barred(x[4:]), "|"+x[4:]+"|")
	isWritten(t, token(api.TKeyword, x[3:]), ":"+x[3:])
	for _, k := range []api.Token{
		token(api.TNumeral, ones[1:]), token(api.TNumeral, ones), token(api.TDecimal, "1."+ones[3:]), token(api.THex, ones[3:]), token(api.THex, ones), token(api.TBinary, ones[3:]),
		token(api.TString, x[3:]), token(api.TString, x), token(api.TString, marks[:most/2]), token(api.TString, marks), token(api.TSymbol, x[1:]), barred(x[3:]), barred(x), token(api.TKeyword, x[2:]), token(api.TOpen, x), token(0, x),
	} {
		noToken(t, k)
	}
}
