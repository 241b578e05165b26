package lexis_test

import (
	"slices"
	"strings"
	"testing"

	"tribunal/api"
	"tribunal/lexis"
)

const (
	digits  = "0123456789"
	letters = "abcdefghijklmnopqrstuvwxyzABCDEFGHIJKLMNOPQRSTUVWXYZ"
	signs   = "~!@$%^&*_-+=<>.?/"
	simples = letters + digits + signs
	blanks  = "\t\n\r "
	parting = blanks + "();\"|" // what may stand behind a token that nothing of its own ends
)

// allows tells whether a byte is printable or a blank.
func allows(b byte) bool {
	return b >= 32 && b <= 126 || b >= 128 || strings.IndexByte(blanks, b) >= 0
}

func token(kind api.TokenKind, text string) api.Token { return api.Token{Kind: kind, Text: text} }

func barred(text string) api.Token {
	return api.Token{Kind: api.TSymbol, Text: text, Quoted: true}
}

func at(t api.Token, line, column int) api.Token {
	t.Line, t.Column = line, column
	return t
}

// sample is a token and how it is written.
type sample struct {
	text  string
	token api.Token
}

// samples are tokens of each kind.
func samples() []sample {
	return []sample{
		{"(", token(api.TOpen, "(")},
		{")", token(api.TClose, ")")},
		{"0", token(api.TNumeral, "0")},
		{"7", token(api.TNumeral, "7")},
		{"10203", token(api.TNumeral, "10203")},
		{"987654321098765432109876543210", token(api.TNumeral, "987654321098765432109876543210")},
		{"0.0", token(api.TDecimal, "0.0")},
		{"1.50", token(api.TDecimal, "1.50")},
		{"120.007", token(api.TDecimal, "120.007")},
		{"0.90", token(api.TDecimal, "0.90")},
		{"#x0", token(api.THex, "0")},
		{"#x00ff", token(api.THex, "00ff")},
		{"#x0123456789abcdef", token(api.THex, "0123456789abcdef")},
		{"#b0", token(api.TBinary, "0")},
		{"#b1", token(api.TBinary, "1")},
		{"#b0010", token(api.TBinary, "0010")},
		{`""`, token(api.TString, "")},
		{`"a"`, token(api.TString, "a")},
		{`"a""b"`, token(api.TString, `a"b`)},
		{`""""`, token(api.TString, `"`)},
		{`"""x"""""`, token(api.TString, `"x""`)},
		{"\"(a) ;|\\\t\r\n\x80\xff~ \"", token(api.TString, "(a) ;|\\\t\r\n\x80\xff~ ")},
		{"x", token(api.TSymbol, "x")},
		{"assert", token(api.TSymbol, "assert")},
		{"let", token(api.TSymbol, "let")},
		{"_", token(api.TSymbol, "_")},
		{"-1", token(api.TSymbol, "-1")},
		{".5", token(api.TSymbol, ".5")},
		{"@a.b", token(api.TSymbol, "@a.b")},
		{letters + signs + digits, token(api.TSymbol, letters+signs+digits)},
		{"||", barred("")},
		{"|a b|", barred("a b")},
		{"|let|", barred("let")},
		{"|x|", barred("x")},
		{"|12|", barred("12")},
		{"|\"(a) ;\t\r\n\x80\xff~ \"|", barred("\"(a) ;\t\r\n\x80\xff~ \"")},
		{":named", token(api.TKeyword, "named")},
		{":0", token(api.TKeyword, "0")},
		{":-", token(api.TKeyword, "-")},
		{":" + simples, token(api.TKeyword, simples)},
	}
}

// open tells whether nothing of its own ends a token.
func open(t api.Token) bool {
	switch t.Kind {
	case api.TOpen, api.TClose, api.TString:
		return false
	}
	return !t.Quoted
}

// isScan asks for tokens with their places.
func isScan(t *testing.T, s string, want ...api.Token) {
	t.Helper()
	l, line, column, e := lexis.Scan(s)
	if e != api.OK || line != 0 || column != 0 || !slices.Equal(l, want) {
		t.Errorf("Scan(%q): %+v, %d, %d, error %d; want %+v", brief(s), l, line, column, e, want)
	}
}

func noScan(t *testing.T, s string, line, column int, want api.Errno) {
	t.Helper()
	if l, i, j, e := lexis.Scan(s); len(l) != 0 || i != line || j != column || e != want {
		t.Errorf("Scan(%q): %+v, %d, %d, error %d; want %d, %d, error %d", brief(s), l, i, j, e, line, column, want)
	}
}

func isWritten(t *testing.T, k api.Token, want string) {
	t.Helper()
	if s, e := lexis.Write(k); s != want || e != api.OK {
		t.Errorf("Write(%+v): %q, error %d; want %q", k, brief(s), e, brief(want))
	}
	if s, e := lexis.Join([]api.Token{k}); s != want || e != api.OK {
		t.Errorf("Join(%+v): %q, error %d; want %q", k, brief(s), e, brief(want))
	}
}

// noToken asks that a token is refused, alone and among others.
func noToken(t *testing.T, k api.Token) {
	t.Helper()
	if s, e := lexis.Write(k); s != "" || e != api.ErrShape {
		k.Text = brief(k.Text)
		t.Errorf("Write(%+v): %q, error %d", k, brief(s), e)
	}
	x := token(api.TSymbol, "x")
	for _, l := range [][]api.Token{{k}, {k, x}, {x, k}, {x, k, x}} {
		if s, e := lexis.Join(l); s != "" || e != api.ErrShape {
			k.Text = brief(k.Text)
			t.Errorf("Join with %+v: %q, error %d", k, brief(s), e)
		}
	}
}

func isJoined(t *testing.T, want string, l ...api.Token) {
	t.Helper()
	if s, e := lexis.Join(l); s != want || e != api.OK {
		t.Errorf("Join(%+v): %q, error %d; want %q", l, brief(s), e, brief(want))
	}
}

// brief is a text as it may be told.
func brief(s string) string {
	if len(s) > 200 {
		return s[:100] + " .. " + s[len(s)-100:]
	}
	return s
}

// bare are tokens without their places.
func bare(l []api.Token) []api.Token {
	l = slices.Clone(l)
	for i := range l {
		l[i].Line, l[i].Column = 0, 0
	}
	return l
}

// placeBehind is the line and column of what would stand behind a text.
func placeBehind(s string) (int, int) {
	return 1 + strings.Count(s, "\n"), len(s) - strings.LastIndex(s, "\n")
}

// dice are numbers that look like any, the same ones each time.
type dice struct{ state uint64 }

func (d *dice) roll() uint64 {
	d.state += 0x9e3779b97f4a7c15
	z := d.state
	z = (z ^ z>>30) * 0xbf58476d1ce4e5b9
	z = (z ^ z>>27) * 0x94d049bb133111eb
	return z ^ z>>31
}

func (d *dice) below(n int) int { return int(d.roll() % uint64(n)) }

func pick[T any](d *dice, list []T) T { return list[d.below(len(list))] }

// text is made of pieces that mean something, and of any bytes.
func (d *dice) text(most int) string {
	pieces := []string{
		"0", "1", "12", "007", ".", "1.5", "#", "#x", "#b", "fF", "01", "\"", "\"\"", "\"a", "a\"", "|", "||", "|a", "a|", "\\",
		":", ":k", "a", "let", "-", "-1", "(", ")", "()", ";", "; c\n", "\n", "\n", "\r", "\t", " ", " ", "  ", "\x00", "\x7f", "\x80", "\xc3\xa9", "'", ",", "[",
	}
	var s strings.Builder
	for range d.below(most + 1) {
		if d.below(20) == 0 {
			s.WriteByte(byte(d.below(256)))
		} else {
			s.WriteString(pick(d, pieces))
		}
	}
	return s.String()
}

// of is a text of bytes of those.
func (d *dice) of(bytes string, length int) string {
	s := make([]byte, length)
	for i := range s {
		s[i] = bytes[d.below(len(bytes))]
	}
	return string(s)
}

// inside is a text of bytes that may stand in texts but those.
func (d *dice) inside(length int, but string) string {
	s := make([]byte, 0, length)
	for len(s) < length {
		if b := byte(d.below(256)); allows(b) && strings.IndexByte(but, b) < 0 {
			s = append(s, b)
		}
	}
	return string(s)
}

// token is one of any kind.
func (d *dice) token() api.Token {
	switch n := 1 + d.below(5); d.below(10) {
	case 0:
		return token(api.TOpen, "(")
	case 1:
		return token(api.TClose, ")")
	case 2:
		return token(api.TNumeral, d.numeral())
	case 3:
		return token(api.TDecimal, d.numeral()+"."+d.of(digits, n))
	case 4:
		return token(api.THex, d.of(digits+"abcdef", n))
	case 5:
		return token(api.TBinary, d.of("01", n))
	case 6:
		return token(api.TString, d.inside(n-1, "")+pick(d, []string{"", `"`, `""`, "\n"}))
	case 7:
		return barred(d.inside(n-1, `|\`))
	case 8:
		return token(api.TKeyword, d.of(simples, n))
	}
	return token(api.TSymbol, d.of(letters+signs, 1)+d.of(simples, d.below(5)))
}

func (d *dice) numeral() string {
	if d.below(3) == 0 {
		return "0"
	}
	return d.of("123456789", 1) + d.of(digits, d.below(5))
}

func (d *dice) tokens(most int) []api.Token {
	l := make([]api.Token, d.below(most+1))
	for i := range l {
		l[i] = d.token()
	}
	return l
}

// gap is what may stand between tokens.
func (d *dice) gap() string {
	s := pick(d, []string{" ", "\t", "\r", "\n"})
	for range d.below(3) {
		s += pick(d, []string{" ", "\t", "\r", "\n", "\r\n", ";\n", "; (a \"b |c #x \x00\x01\x7f\xff' ;;\r \n", ";c\n;d\n"})
	}
	return s
}

// plain writes a token by the table of the chapter.
func plain(t api.Token) string {
	switch {
	case t.Kind == api.THex:
		return "#x" + t.Text
	case t.Kind == api.TBinary:
		return "#b" + t.Text
	case t.Kind == api.TString:
		return `"` + strings.Join(strings.Split(t.Text, `"`), `""`) + `"`
	case t.Kind == api.TKeyword:
		return ":" + t.Text
	case t.Quoted:
		return "|" + t.Text + "|"
	}
	return t.Text
}
