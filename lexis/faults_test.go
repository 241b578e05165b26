package lexis_test

import (
	"strings"
	"testing"

	"tribunal/api"
	"tribunal/lexis"
)

// P6.1: the chapter's examples of faults.
func TestExamplesOfFaults(t *testing.T) {
	noScan(t, "007", 1, 1, api.ErrNumeral)
	noScan(t, "(\n  12a", 2, 3, api.ErrNumeral)
	noScan(t, `"a`, 1, 1, api.ErrOpen)
	noScan(t, `|a\b|`, 1, 1, api.ErrOpen)
	noScan(t, "#", 1, 1, api.ErrNumeral)
	noScan(t, "#x", 1, 1, api.ErrNumeral)
	noScan(t, "'", 1, 1, api.ErrByte)
	noScan(t, ":", 1, 1, api.ErrNumeral)
	noScan(t, "\x00", 1, 1, api.ErrByte)
}

// fault is a text whose first byte begins a fault that nothing behind the text changes.
type fault struct {
	text string
	e    api.Errno
}

func decidedFaults() []fault {
	l := []fault{
		{"007", api.ErrNumeral}, {"00", api.ErrNumeral}, {"12a", api.ErrNumeral}, {"1.(", api.ErrNumeral}, {"1.a", api.ErrNumeral}, {"1.5.", api.ErrNumeral}, {"0'", api.ErrNumeral},
		{"# ", api.ErrNumeral}, {"#)", api.ErrNumeral}, {"#a", api.ErrNumeral}, {"#x ", api.ErrNumeral}, {"#xg", api.ErrNumeral}, {"#x1g", api.ErrNumeral}, {"#b;", api.ErrNumeral}, {"#b2", api.ErrNumeral}, {"#b12", api.ErrNumeral},
		{": ", api.ErrNumeral}, {"::", api.ErrNumeral}, {":a:", api.ErrNumeral}, {":|", api.ErrNumeral}, {"a'", api.ErrNumeral}, {"a:", api.ErrNumeral}, {"a\x00", api.ErrNumeral}, {"-#", api.ErrNumeral}, {"a\xc3", api.ErrNumeral},
		{"\"\x00", api.ErrOpen}, {"\"a\"\"\x7f", api.ErrOpen}, {"\"\n\x1b", api.ErrOpen}, {"|\\", api.ErrOpen}, {"|a\n\\", api.ErrOpen}, {"|\x00", api.ErrOpen}, {"|\"\x08", api.ErrOpen},
	}
	for b := range 256 {
		s := string([]byte{byte(b)})
		if !strings.Contains(simples+blanks+"()#\"|:;", s) {
			l = append(l, fault{s, api.ErrByte})
		}
	}
	return l
}

// P6.7: what stands behind a fault's token changes neither its place nor the error; what stands ahead is no matter, but for the place.
func TestFirstFaultCounts(t *testing.T) {
	d := dice{67}
	l := decidedFaults()
	for _, one := range l {
		for _, ahead := range []string{"", " ", "(", "\n", "x ", "(f \"a\n\" |b\n\n|\t", "; '\n 12 ", ")("} {
			line, column := placeBehind(ahead)
			noScan(t, ahead+one.text, line, column, one.e)
			for _, two := range l {
				noScan(t, ahead+one.text+two.text, line, column, one.e)
				noScan(t, ahead+one.text+" "+two.text, line, column, one.e)
			}
			for _, behind := range []string{"x", " x", "\"", "\"a\"", "|", "|a|", "\n", ";", "0", ".", "\\", "\x00", "\xff", d.text(5), d.text(20)} {
				noScan(t, ahead+one.text+behind, line, column, one.e)
			}
		}
	}
}

// P6.1: of several faults the first from the left, whatever they are.
func TestOrderOfFaults(t *testing.T) {
	for s, want := range map[string]struct {
		column int
		e      api.Errno
	}{
		"' 007 \"": {1, api.ErrByte}, "007 ' \"": {1, api.ErrNumeral}, "\"' 007": {1, api.ErrOpen}, "\"'\" 007 '": {5, api.ErrNumeral}, "\"'\" ' 007": {5, api.ErrByte},
		"a' \"": {1, api.ErrNumeral}, "a ' \"": {3, api.ErrByte}, "a \" '": {3, api.ErrOpen}, "|\\ '": {1, api.ErrOpen}, "|'| \x00 |": {5, api.ErrByte}, "(a '": {4, api.ErrByte},
		"12|": {3, api.ErrOpen}, "12\"": {3, api.ErrOpen}, "12'": {1, api.ErrNumeral}, "12 '": {4, api.ErrByte}, "12('": {4, api.ErrByte}, "12)007": {4, api.ErrNumeral}, "||'": {3, api.ErrByte}, "\"\"'": {3, api.ErrByte}, "\"\"007": {3, api.ErrNumeral}, "()#": {3, api.ErrNumeral},
	} {
		noScan(t, s, 1, want.column, want.e)
	}
}

// P6.1: a text of just MaxText bytes, and of one more; too long comes ahead of every fault, and has no place.
func TestLengthOfTexts(t *testing.T) {
	const most = api.MaxText
	x := strings.Repeat("x", most)
	isScan(t, x, at(token(api.TSymbol, x), 1, 1))
	isScan(t, x[:most-1], at(token(api.TSymbol, x[1:]), 1, 1))
	isScan(t, "\""+x[2:]+"\"", at(token(api.TString, x[2:]), 1, 1))
	isScan(t, "|"+x[2:]+"|", at(barred(x[2:]), 1, 1))
	isScan(t, strings.Repeat(" ", most))
	isScan(t, ";"+x[1:])
	isScan(t, strings.Repeat("\n", most-1)+"x", at(token(api.TSymbol, "x"), most, 1))
	isScan(t, strings.Repeat("\t", most-1)+"x", at(token(api.TSymbol, "x"), 1, most))
	noScan(t, x[1:]+"'", 1, 1, api.ErrNumeral)
	noScan(t, strings.Repeat("\r", most-1)+"'", 1, most, api.ErrByte)
	noScan(t, "\""+x[1:], 1, 1, api.ErrOpen)
	for _, s := range []string{x + "x", x + " ", strings.Repeat(" ", most+1), ";" + x, "'" + x, "\"" + x, "007 " + x, x + x, strings.Repeat("(", most+1), "\x00" + x} {
		noScan(t, s, 0, 0, api.ErrLong)
	}
	l, line, column, e := lexis.Scan(strings.Repeat("()", most/2))
	if len(l) != most || line != 0 || column != 0 || e != api.OK || l[most-1] != at(token(api.TClose, ")"), 1, most) {
		t.Errorf("%d parentheses, %d, %d, error %d", len(l), line, column, e)
	}
}
