package lexis_test

import (
	"strings"
	"testing"

	"tribunal/api"
)

// P6.1: the chapter's examples of tokens.
func TestExamplesOfTokens(t *testing.T) {
	open, closing := token(api.TOpen, "("), token(api.TClose, ")")
	isScan(t, "(assert (= x #xFf)) ; so",
		at(open, 1, 1), at(token(api.TSymbol, "assert"), 1, 2), at(open, 1, 9), at(token(api.TSymbol, "="), 1, 10),
		at(token(api.TSymbol, "x"), 1, 12), at(token(api.THex, "ff"), 1, 14), at(closing, 1, 18), at(closing, 1, 19))
	isScan(t, "|a b|", at(barred("a b"), 1, 1))
	isScan(t, `"a""b"`, at(token(api.TString, `a"b`), 1, 1))
	isScan(t, ":named", at(token(api.TKeyword, "named"), 1, 1))
	isScan(t, "1.50", at(token(api.TDecimal, "1.50"), 1, 1))
	isScan(t, "-1", at(token(api.TSymbol, "-1"), 1, 1))
}

// P6.1: a text without tokens.
func TestNoTokens(t *testing.T) {
	for _, s := range []string{"", " ", "\t", "\n", "\r", "\r\n \t\n", ";", ";\n", "; a", ";;", " ; (\n;\n ; \"", "\n\n;\x00"} {
		isScan(t, s)
	}
}

// P6.1: each kind of token, alone.
func TestAlone(t *testing.T) {
	for _, one := range samples() {
		isScan(t, one.text, at(one.token, 1, 1))
		for _, ahead := range []string{" ", "\t", "\r", "  \t", "\n", "\r\n ", "\n\n", ";c\n", " ;\n  ", "; é\x00\n;\r \n\t"} {
			line, column := placeBehind(ahead)
			isScan(t, ahead+one.text, at(one.token, line, column))
			isScan(t, ahead+one.text+" ", at(one.token, line, column))
		}
		for _, behind := range []string{" ", "\t", "\n", "\r", ";", ";c", ";c\n", "\n;\x01"} {
			isScan(t, one.text+behind, at(one.token, 1, 1))
		}
	}
}

// P6.1: each kind of token ahead of each, with all between them that may stand there.
func TestPairs(t *testing.T) {
	for _, one := range samples() {
		for _, two := range samples() {
			gaps := []string{" ", "\t", "\r", "\n", "\r\n", ";\n", " ; \"|\x00\n "}
			if apart(one, two) {
				gaps = append(gaps, "")
			}
			for _, gap := range gaps {
				line, column := placeBehind(one.text + gap)
				isScan(t, one.text+gap+two.text, at(one.token, 1, 1), at(two.token, line, column))
				lineBehind, columnBehind := placeBehind(one.text + gap + two.text)
				isScan(t, one.text+gap+two.text+"(", at(one.token, 1, 1), at(two.token, line, column), at(token(api.TOpen, "("), lineBehind, columnBehind))
			}
		}
	}
}

// apart tells whether two tokens may stand behind one another with nothing between them.
func apart(one, two sample) bool {
	if one.token.Kind == api.TString {
		return two.token.Kind != api.TString
	}
	return !open(one.token) || strings.IndexByte(parting, two.text[0]) >= 0
}

// P6.1: each byte where a token may begin.
func TestBytesThatBegin(t *testing.T) {
	for n := range 256 {
		b := byte(n)
		s := string([]byte{b})
		for _, ahead := range []string{"", " ", "(", "\n", "x ", `"t"`, "|q|", ") ;c\n\t"} {
			line, column := placeBehind(ahead)
			text := ahead + s
			switch {
			case strings.Contains(blanks+";", s):
				isMore(t, ahead, text)
			case s == "(":
				isMore(t, ahead, text, at(token(api.TOpen, s), line, column))
			case s == ")":
				isMore(t, ahead, text, at(token(api.TClose, s), line, column))
			case strings.Contains(digits, s):
				isMore(t, ahead, text, at(token(api.TNumeral, s), line, column))
			case strings.Contains(letters+signs, s):
				isMore(t, ahead, text, at(token(api.TSymbol, s), line, column))
			case s == "#" || s == ":":
				noScan(t, text, line, column, api.ErrNumeral)
			case s == "|" || s == `"` && ahead != `"t"`:
				noScan(t, text, line, column, api.ErrOpen)
			case s == `"`: // two of them stand for one in the text
				noScan(t, text, 1, 1, api.ErrOpen)
			default:
				noScan(t, text, line, column, api.ErrByte)
			}
		}
	}
}

// isMore asks that a longer text has the tokens of what is ahead, and those.
func isMore(t *testing.T, ahead, text string, more ...api.Token) {
	t.Helper()
	m := scanByModel(ahead)
	if m.fault != api.OK {
		t.Fatalf("%q has a fault", ahead)
	}
	isScan(t, text, append(m.tokens, more...)...)
}

// P6.1: each byte inside a text.
func TestBytesInTexts(t *testing.T) {
	for n := range 256 {
		b := byte(n)
		s := string([]byte{b})
		for _, around := range [][2]string{{"", ""}, {"a", ""}, {"", "b"}, {"a\n", "b"}, {`""`, `""`}} {
			text := `"` + around[0] + s + around[1] + `"`
			inner := strings.ReplaceAll(around[0]+s+around[1], `""`, `"`)
			switch {
			case b == '"': // it ends the text, or is the half of one
				continue
			case allows(b):
				isScan(t, text, at(token(api.TString, inner), 1, 1))
				isScan(t, " \n  "+text+"\n", at(token(api.TString, inner), 2, 3))
			default:
				noScan(t, text, 1, 1, api.ErrOpen)
				noScan(t, "x \n  "+text+" '", 2, 3, api.ErrOpen)
			}
		}
	}
}

// P6.1: `""` inside a text, and where a text ends.
func TestTexts(t *testing.T) {
	for s, want := range map[string]string{
		`""`: ``, `""""`: `"`, `""""""`: `""`, `"a""b""c"`: `a"b"c`, `"""a"`: `"a`, `"a"""`: `a"`, `""""" "`: `"" `, `" "" "`: ` " `, `"\"`: `\`, `"\n"`: `\n`, `"\""\"`: `\"\`,
		"\"a\nb\r\n\tc\"": "a\nb\r\n\tc", `"|a|"`: `|a|`, `";"`: `;`, `"é"`: `é`, "\"\xff\x80\"": "\xff\x80", `"#x"`: `#x`, `"~"`: `~`,
	} {
		isScan(t, s, at(token(api.TString, want), 1, 1))
	}
	isScan(t, `"a" "b"`, at(token(api.TString, "a"), 1, 1), at(token(api.TString, "b"), 1, 5))
	isScan(t, `"a"b`, at(token(api.TString, "a"), 1, 1), at(token(api.TSymbol, "b"), 1, 4))
	isScan(t, `"a"12`, at(token(api.TString, "a"), 1, 1), at(token(api.TNumeral, "12"), 1, 4))
	isScan(t, `"a""b"|c|""`, at(token(api.TString, `a"b`), 1, 1), at(barred("c"), 1, 7), at(token(api.TString, ""), 1, 10))
	for _, s := range []string{`"`, `"a`, `"a""`, `"""`, `"""""`, `"a""b`, `"a""b""`, "\"\n", "\"a\n\n(b)", "\"|a|", "\";", "\"a\x00\"", "\"a\x00", "\"\x7f\"", "\"\x1f\"", "\"\x0b\"", "\"\x0c\"", "\"a\"\"\x01b\""} {
		noScan(t, s, 1, 1, api.ErrOpen)
		noScan(t, "( "+s, 1, 3, api.ErrOpen)
		noScan(t, "|\n\n| "+s, 3, 3, api.ErrOpen)
	}
}

// P6.1: each byte inside a symbol with bars.
func TestBytesInBars(t *testing.T) {
	for n := range 256 {
		b := byte(n)
		s := string([]byte{b})
		for _, around := range [][2]string{{"", ""}, {"a", ""}, {"", "b"}, {"a\n", "b"}, {`"`, ` "`}} {
			inner := around[0] + s + around[1]
			text := "|" + inner + "|"
			switch {
			case b == '|': // it ends the symbol
				continue
			case b != '\\' && allows(b):
				isScan(t, text, at(barred(inner), 1, 1))
				isScan(t, " \n  "+text+"\n", at(barred(inner), 2, 3))
			default:
				noScan(t, text, 1, 1, api.ErrOpen)
				noScan(t, "x \n  "+text+" '", 2, 3, api.ErrOpen)
			}
		}
	}
}

// P6.1: symbols with bars, and where they end.
func TestBars(t *testing.T) {
	for _, s := range []string{"", " ", "a", "a b", "let", "_", "12", "007", "#x", ":", "\"", "\"\"", ";", "; c\n", "()", "\n", "a\r\n\tb", "é", "\xff", "'", "@a", ".a", strings.Repeat("x", 5000)} {
		isScan(t, "|"+s+"|", at(barred(s), 1, 1))
	}
	isScan(t, "|a||b|", at(barred("a"), 1, 1), at(barred("b"), 1, 4))
	isScan(t, "||||", at(barred(""), 1, 1), at(barred(""), 1, 3))
	isScan(t, "a|b|c", at(token(api.TSymbol, "a"), 1, 1), at(barred("b"), 1, 2), at(token(api.TSymbol, "c"), 1, 5))
	isScan(t, "|a|12", at(barred("a"), 1, 1), at(token(api.TNumeral, "12"), 1, 4))
	isScan(t, "|a|:k|b|\"c\"", at(barred("a"), 1, 1), at(token(api.TKeyword, "k"), 1, 4), at(barred("b"), 1, 6), at(token(api.TString, "c"), 1, 9))
	for _, s := range []string{"|", "|a", "|\n", "|a\\b|", "|\\|", "|\\", "|a\\", "|\x00|", "|a\x7f", "|\"", "|;\n", "|a\nb\n", "|\x1f|", "|\x0b|", "|a\n\\|"} {
		noScan(t, s, 1, 1, api.ErrOpen)
		noScan(t, "( "+s, 1, 3, api.ErrOpen)
		noScan(t, "\"\n\n\" "+s, 3, 3, api.ErrOpen)
	}
	noScan(t, "|a||b|c|", 1, 8, api.ErrOpen)
}

// P6.1: each byte inside a comment.
func TestBytesInComments(t *testing.T) {
	x, y := token(api.TSymbol, "x"), token(api.TSymbol, "y")
	for n := range 256 {
		s := string([]byte{byte(n)})
		if s == "\n" {
			isScan(t, "x;a\ny", at(x, 1, 1), at(y, 2, 1))
			continue
		}
		isScan(t, "x;"+s+"\ny", at(x, 1, 1), at(y, 2, 1))
		isScan(t, "x;a"+s+"y", at(x, 1, 1))
		isScan(t, "x ; a"+s+" y\n y", at(x, 1, 1), at(y, 2, 2))
		isScan(t, ";"+s)
	}
}

// P6.1: where comments begin and end.
func TestComments(t *testing.T) {
	x, y := token(api.TSymbol, "x"), token(api.TSymbol, "y")
	isScan(t, "x;y", at(x, 1, 1))
	isScan(t, "x;", at(x, 1, 1))
	isScan(t, "x ; y", at(x, 1, 1))
	isScan(t, "x;\ny", at(x, 1, 1), at(y, 2, 1))
	isScan(t, ";\n;\nx", at(x, 3, 1))
	isScan(t, ";;\n  x;y\r\ny", at(x, 2, 3), at(y, 3, 1))
	isScan(t, ";a\rx\ny", at(y, 2, 1))
	isScan(t, ";\"\nx;|\ny", at(x, 2, 1), at(y, 3, 1))
	isScan(t, "|;|x", at(barred(";"), 1, 1), at(x, 1, 4))
	isScan(t, "\";\"x", at(token(api.TString, ";"), 1, 1), at(x, 1, 4))
	isScan(t, "(;(\n)", at(token(api.TOpen, "("), 1, 1), at(token(api.TClose, ")"), 2, 1))
}

// P6.5: lines and columns behind each of the blanks, and behind what goes over more than one line.
func TestPlaces(t *testing.T) {
	x := token(api.TSymbol, "x")
	for ahead, want := range map[string][2]int{
		"": {1, 1}, " ": {1, 2}, "\t": {1, 2}, "\r": {1, 2}, "\n": {2, 1}, "\r\n": {2, 1}, "\n\r": {2, 2}, "\n\n": {3, 1}, "\t\t ": {1, 4}, "\n \t": {2, 3}, " \n\n\t\n  ": {4, 3}, "\r\r": {1, 3},
		";\n": {2, 1}, "; a\n ": {2, 2}, ";\r\n": {2, 1}, ";\n;\n": {3, 1}, ";é\n\r": {2, 2},
	} {
		isScan(t, ahead+"x", at(x, want[0], want[1]))
		noScan(t, ahead+"'", want[0], want[1], api.ErrByte)
		noScan(t, ahead+"007", want[0], want[1], api.ErrNumeral)
		noScan(t, ahead+"\"\n\n", want[0], want[1], api.ErrOpen)
		noScan(t, ahead+"|a\nb\\\n|", want[0], want[1], api.ErrOpen)
	}
	for _, q := range []string{"\"", "|"} {
		for inner, want := range map[string][2]int{
			"": {1, 3}, "a": {1, 4}, "\n": {2, 2}, "a\n": {2, 2}, "\nab": {2, 4}, "a\n\nb": {3, 3}, "\r": {1, 4}, "\t": {1, 4}, "a\r\nb": {2, 3}, "é": {1, 5}, "\xff\n\x80": {2, 3}, "\n\n\n": {4, 2},
		} {
			first := token(api.TString, inner)
			if q == "|" {
				first = barred(inner)
			}
			isScan(t, q+inner+q+"x", at(first, 1, 1), at(x, want[0], want[1]))
			isScan(t, q+inner+q+" x", at(first, 1, 1), at(x, want[0], want[1]+1))
			isScan(t, q+inner+q+"\nx", at(first, 1, 1), at(x, want[0]+1, 1))
			noScan(t, q+inner+q+"'", want[0], want[1], api.ErrByte)
			noScan(t, q+inner+q+"#", want[0], want[1], api.ErrNumeral)
		}
	}
	isScan(t, "\"a\"\"\n\"\"b\"x", at(token(api.TString, "a\"\n\"b"), 1, 1), at(x, 2, 5))
}
