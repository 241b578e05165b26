package lexis_test

import (
	"slices"
	"strings"
	"testing"

	"tribunal/api"
	"tribunal/lexis"
)

// P6.2, P6.3: the chapter's examples of what is written.
func TestExamplesOfJoin(t *testing.T) {
	isJoined(t, "(f x)", token(api.TOpen, "("), token(api.TSymbol, "f"), token(api.TSymbol, "x"), token(api.TClose, ")"))
	if s := lexis.Symbol("let"); s != "|let|" {
		t.Error(s)
	}
	isString(t, `a"b`, `"a""b"`)
}

// P6.3: no tokens, and some.
func TestJoin(t *testing.T) {
	o, c, x, n := token(api.TOpen, "("), token(api.TClose, ")"), token(api.TSymbol, "x"), token(api.TNumeral, "1")
	isJoined(t, "")
	isJoined(t, "", []api.Token{}...)
	isJoined(t, "x", x)
	isJoined(t, "()", o, c)
	isJoined(t, "() ()", o, c, o, c)
	isJoined(t, "((", o, o)
	isJoined(t, "))", c, c)
	isJoined(t, ") (", c, o)
	isJoined(t, "(x) (1)", o, x, c, o, n, c)
	isJoined(t, "x ((x 1) 1) x", x, o, o, x, n, c, n, c, x)
	isJoined(t, "x ()", x, o, c)
	isJoined(t, "\"a\" \"b\"", token(api.TString, "a"), token(api.TString, "b"))
	isJoined(t, "|a| |b| x", barred("a"), barred("b"), x)
	isJoined(t, "(! x :named |let| let #xff #b01 1.5)", o, token(api.TSymbol, "!"), x, token(api.TKeyword, "named"), barred("let"), token(api.TSymbol, "let"), token(api.THex, "ff"), token(api.TBinary, "01"), token(api.TDecimal, "1.5"), c)
	isJoined(t, "\"\n\" (x)", at(token(api.TString, "\n"), 7, 7), at(o, 0, -1), at(x, 1, 1), at(c, 1, 1))
}

// P6.3: where blanks stand, between any two of any three kinds; P6.4.
func TestBlanksOfJoin(t *testing.T) {
	l := samples()
	for _, one := range l {
		for _, two := range l {
			between := " "
			if one.token.Kind == api.TOpen || two.token.Kind == api.TClose {
				between = ""
			}
			isJoined(t, one.text+between+two.text, one.token, two.token)
			comesBack(t, []api.Token{one.token, two.token})
			for _, three := range l {
				again := " "
				if two.token.Kind == api.TOpen || three.token.Kind == api.TClose {
					again = ""
				}
				isJoined(t, one.text+between+two.text+again+three.text, one.token, two.token, three.token)
			}
		}
	}
}

// comesBack asks that Scan of Join gives the tokens.
func comesBack(t *testing.T, l []api.Token) {
	t.Helper()
	s, e := lexis.Join(l)
	if e != api.OK {
		t.Errorf("Join(%+v): error %d", l, e)
	}
	got, line, column, e := lexis.Scan(s)
	if e != api.OK || line != 0 || column != 0 || !slices.Equal(bare(got), bare(l)) {
		t.Errorf("Scan(%q): %+v, %d, %d, error %d; want %+v", s, got, line, column, e, l)
	}
}

// P6.3, P6.4: many lists of tokens.
func TestManyLists(t *testing.T) {
	d := dice{63}
	for range 5000 {
		l := d.tokens(12)
		for i := range l {
			l[i].Line, l[i].Column = d.below(5)-1, d.below(100)-1
		}
		var want strings.Builder
		for i, k := range l {
			if i > 0 && l[i-1].Kind != api.TOpen && k.Kind != api.TClose {
				want.WriteByte(' ')
			}
			want.WriteString(plain(k))
		}
		isJoined(t, want.String(), l...)
		comesBack(t, l)
		text := want.String()
		once, _, _, _ := lexis.Scan(text)
		isJoined(t, text, once...)
	}
}

// P6.4: what Scan gives of a text that is written otherwise comes back too.
func TestScanOfJoinOfScan(t *testing.T) {
	d := dice{64}
	good := 0
	for range 20000 {
		if l, _, _, e := lexis.Scan(d.text(8)); e == api.OK && len(l) > 0 {
			good++
			comesBack(t, l)
		}
	}
	if good < 2000 {
		t.Errorf("only %d texts", good)
	}
}

// P6.3: a token that is none is refused wherever it stands, also where what is ahead is too long.
func TestErrorsOfJoin(t *testing.T) {
	x, bad := token(api.TSymbol, "x"), token(api.TNumeral, "07")
	half := token(api.TSymbol, strings.Repeat("y", api.MaxText/2+1))
	for what, l := range map[string][]api.Token{
		"alone": {bad}, "first": {bad, x, x}, "in the middle": {x, bad, x}, "last": {x, x, bad}, "twice": {bad, x, bad},
		"ahead of what is too long": {bad, half, half}, "behind what is too long": {half, half, bad}, "within": {half, bad, half}, "far behind": {half, half, half, x, x, bad, x},
		"no kind": {x, {Kind: 77, Text: "x"}}, "no kind, behind what is too long": {half, half, {}}, "an empty symbol": {half, half, token(api.TSymbol, "")}, "too long itself": {token(api.TSymbol, strings.Repeat("z", api.MaxText+1))},
	} {
		if s, e := lexis.Join(l); s != "" || e != api.ErrShape {
			t.Errorf("Join, a bad token %s: %d bytes, error %d", what, len(s), e)
		}
	}
}

// P6.3: a text of just MaxText bytes, and of one more.
func TestLengthOfJoin(t *testing.T) {
	const most = api.MaxText
	o, c, x := token(api.TOpen, "("), token(api.TClose, ")"), token(api.TSymbol, "x")
	y := strings.Repeat("y", most)
	fits := func(l ...api.Token) {
		t.Helper()
		s, e := lexis.Join(l)
		if len(s) != most || e != api.OK {
			t.Errorf("Join: %d bytes, error %d", len(s), e)
			return
		}
		if got, _, _, e := lexis.Scan(s); e != api.OK || !slices.Equal(bare(got), l) {
			t.Errorf("Scan of Join: %d tokens, error %d", len(got), e)
		}
	}
	tooLong := func(l ...api.Token) {
		t.Helper()
		if s, e := lexis.Join(l); s != "" || e != api.ErrLong {
			t.Errorf("Join: %d bytes, error %d", len(s), e)
		}
	}
	fits(token(api.TSymbol, y))
	fits(token(api.TSymbol, y[2:]), x)
	fits(o, token(api.TSymbol, y[2:]), c)
	fits(token(api.TString, y[4:]), x)
	fits(x, token(api.TKeyword, y[3:]))
	fits(slices.Repeat([]api.Token{o}, most)...)
	fits(append(slices.Repeat([]api.Token{x}, most/2), c)...)
	tooLong(token(api.TSymbol, y[1:]), x)
	tooLong(token(api.TSymbol, y), x)
	tooLong(token(api.TSymbol, y), c)
	tooLong(o, token(api.TSymbol, y))
	tooLong(o, token(api.TSymbol, y[1:]), c)
	tooLong(token(api.TSymbol, y), token(api.TSymbol, y), token(api.TSymbol, y))
	tooLong(token(api.TString, y[4:]), barred("x"), x)
	tooLong(slices.Repeat([]api.Token{o}, most+1)...)
	tooLong(slices.Repeat([]api.Token{x}, most/2+1)...)
}
