package lexis_test

import (
	"slices"
	"strings"
	"testing"

	"tribunal/api"
	"tribunal/lexis"
)

// No call changes what is handed in, nor a place behind it; a second call answers the same.
func TestNothingIsChanged(t *testing.T) {
	d := dice{68}
	for range 500 {
		l := append(make([]api.Token, 0, 20), d.tokens(8)...)
		if d.below(3) == 0 {
			l = append(l, api.Token{Kind: 3, Text: "07"})
		}
		whole := slices.Clone(l[:20])
		s, e := lexis.Join(l)
		again, f := lexis.Join(l)
		if s != again || e != f {
			t.Fatalf("Join(%+v): another answer the second time", l)
		}
		if !slices.Equal(whole, l[:20]) {
			t.Fatalf("Join changed %+v to %+v", whole, l[:20])
		}
		text := d.text(10)
		one, line, column, e := lexis.Scan(text)
		two, line2, column2, f := lexis.Scan(text)
		if !slices.Equal(one, two) || line != line2 || column != column2 || e != f {
			t.Fatalf("Scan(%q): another answer the second time", text)
		}
	}
}

// What Scan answers is new memory, spare room too, each time.
func TestAnswersAreNew(t *testing.T) {
	text := "(a b \"c\" |d|)"
	want, _, _, _ := lexis.Scan(text)
	want = slices.Clone(want)
	for range 3 {
		l, _, _, _ := lexis.Scan(text)
		if !slices.Equal(l, want) {
			t.Fatalf("Scan(%q): %+v; want %+v", text, l, want)
		}
		for i := range l[:cap(l)] {
			l[:cap(l)][i] = api.Token{Kind: 77, Text: "gone"}
		}
	}
}

// What was read ahead, with or without a fault, is of no matter.
func TestCallsKnowNothingOfOneAnother(t *testing.T) {
	x := at(token(api.TSymbol, "x"), 1, 1)
	for _, s := range []string{"", "\n\n\n", "\"\n", "|\n\\", "007", "'", "((", ";", strings.Repeat("\n", api.MaxText+1)} {
		lexis.Scan(s)
		isScan(t, "x", x)
		lexis.Write(token(api.TSymbol, s))
		lexis.Join([]api.Token{token(api.TString, s), {}})
		isScan(t, "x", x)
		isWritten(t, x, "x")
	}
}

// No call panics, whatever it is given.
func TestAnythingGoes(t *testing.T) {
	d := dice{69}
	for range 3000 {
		any := make([]byte, d.below(12))
		for i := range any {
			any[i] = byte(d.below(256))
		}
		s := string(any)
		agrees(t, s)
		lexis.Symbol(s)
		if _, e := lexis.String(s); (e == api.OK) == strings.ContainsFunc(wide(s), func(r rune) bool { return !allows(byte(r)) }) {
			t.Fatalf("String(%q): error %d", s, e)
		}
		k := api.Token{Kind: api.TokenKind(d.below(12) - 1), Text: s, Quoted: d.below(2) == 0, Line: -d.below(3), Column: d.below(3)}
		text, e := lexis.Write(k)
		given := e == api.OK
		if given != byScan(k) || given && text != plain(k) || !given && (text != "" || e != api.ErrShape) {
			t.Fatalf("Write(%+v): %q, error %d", k, text, e)
		}
	}
}

// byScan tells by the model whether a short token is one that Scan gives.
func byScan(k api.Token) bool {
	if k.Kind < api.TOpen || k.Kind > api.TKeyword || k.Quoted && k.Kind != api.TSymbol {
		return false
	}
	m := scanByModel(plain(k))
	return m.fault == api.OK && slices.Equal(bare(m.tokens), bare([]api.Token{k}))
}
