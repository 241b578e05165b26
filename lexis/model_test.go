package lexis_test

import (
	"regexp"
	"slices"
	"strings"
	"testing"
	"unicode/utf8"

	"tribunal/api"
	"tribunal/lexis"
)

// The model reads the chapter's table by regular expressions, over texts whose runes stand for bytes.

type form struct {
	kind   api.TokenKind
	quoted bool
	whole  *regexp.Regexp // the tokens of that kind
	begun  *regexp.Regexp // what such a token begins with, as far as it is well formed
}

func longest(s string) *regexp.Regexp {
	r := regexp.MustCompile(`^(?s:` + s + `)`)
	r.Longest()
	return r
}

var (
	simpleClass = `[A-Za-z0-9~!@$%^&*_+=<>.?/-]`
	gapForm     = longest(`(?:[\t\n\r ]|;[^\n]*)*`)
	partingForm = longest(`(?:$|[\t\n\r ();"|])`)
	forms       = []form{
		{api.TOpen, false, longest(`\(`), longest(`\(`)},
		{api.TClose, false, longest(`\)`), longest(`\)`)},
		{api.TNumeral, false, longest(`0|[1-9][0-9]*`), longest(`0|[1-9][0-9]*`)},
		{api.TDecimal, false, longest(`(?:0|[1-9][0-9]*)\.[0-9]+`), longest(`(?:0|[1-9][0-9]*)\.[0-9]*`)},
		{api.THex, false, longest(`#x[0-9a-fA-F]+`), longest(`#(?:x[0-9a-fA-F]*)?`)},
		{api.TBinary, false, longest(`#b[01]+`), longest(`#(?:b[01]*)?`)},
		{api.TString, false, longest(`"(?:[\t\n\r !#-~\x{80}-\x{ff}]|"")*"`), longest(`"(?:[\t\n\r !#-~\x{80}-\x{ff}]|"")*`)},
		{api.TSymbol, false, longest(`[A-Za-z~!@$%^&*_+=<>.?/-]` + simpleClass + `*`), longest(`[A-Za-z~!@$%^&*_+=<>.?/-]` + simpleClass + `*`)},
		{api.TSymbol, true, longest(`\|[\t\n\r -\[\]-{}~\x{80}-\x{ff}]*\|`), longest(`\|[\t\n\r -\[\]-{}~\x{80}-\x{ff}]*`)},
		{api.TKeyword, false, longest(`:` + simpleClass + `+`), longest(`:` + simpleClass + `*`)},
	}
)

// reading is what the model has of a text.
type reading struct {
	tokens  []api.Token
	fault   api.Errno
	place   int // of the fault
	decided int // the byte behind which nothing changes the fault; the text's length, if there is none
}

func wide(s string) string {
	l := make([]rune, len(s))
	for i := range len(s) {
		l[i] = rune(s[i])
	}
	return string(l)
}

// length is how many bytes of a text that is not wide an expression takes; -1: it does not fit.
func length(r *regexp.Regexp, s string) int {
	span := r.FindStringIndex(wide(s))
	if span == nil {
		return -1
	}
	return utf8.RuneCountInString(wide(s)[:span[1]])
}

func scanByModel(s string) reading {
	var m reading
	for from := length(gapForm, s); from < len(s); from += length(gapForm, s[from:]) {
		best, most := form{}, 0
		for _, f := range forms {
			if n := length(f.whole, s[from:]); n > most {
				best, most = f, n
			}
		}
		begun := 0
		for _, f := range forms {
			begun = max(begun, length(f.begun, s[from:]))
		}
		if most == 0 || !well(best, s[from+most:]) {
			return reading{fault: faultOf(s[from]), place: from, decided: from + begun}
		}
		line, column := placeBehind(s[:from])
		m.tokens = append(m.tokens, at(tokenOf(best, s[from:from+most]), line, column))
		from += most
	}
	return m
}

// well tells whether a token may have that behind it.
func well(f form, behind string) bool {
	switch {
	case f.kind == api.TString:
		return !strings.HasPrefix(behind, `"`)
	case f.kind == api.TOpen, f.kind == api.TClose, f.quoted:
		return true
	}
	return length(partingForm, behind) >= 0
}

func faultOf(b byte) api.Errno {
	switch {
	case b == '"', b == '|':
		return api.ErrOpen
	case b == '#', b == ':', strings.IndexByte(simples, b) >= 0:
		return api.ErrNumeral
	}
	return api.ErrByte
}

func tokenOf(f form, s string) api.Token {
	t := api.Token{Kind: f.kind, Text: s, Quoted: f.quoted}
	switch {
	case f.kind == api.THex:
		t.Text = strings.ToLower(s[2:])
	case f.kind == api.TBinary:
		t.Text = s[2:]
	case f.kind == api.TKeyword:
		t.Text = s[1:]
	case f.kind == api.TString:
		t.Text = strings.Join(strings.Split(s[1:len(s)-1], `""`), `"`)
	case f.quoted:
		t.Text = s[1 : len(s)-1]
	}
	return t
}

// agrees holds Scan against the model, and tells what that has.
func agrees(t *testing.T, s string) reading {
	t.Helper()
	m := scanByModel(s)
	if m.fault == api.OK {
		isScan(t, s, m.tokens...)
	} else {
		line, column := placeBehind(s[:m.place])
		noScan(t, s, line, column, m.fault)
	}
	return m
}

// P6.1: all texts of up to three bytes out of those that differ in what they mean.
func TestAllShortTexts(t *testing.T) {
	bytes := "01a f\"|\\#xb:.-(;\n'\x00\x80)"
	var texts []string
	for _, a := range []byte(bytes) {
		texts = append(texts, string([]byte{a}))
		for _, b := range []byte(bytes) {
			texts = append(texts, string([]byte{a, b}))
			for _, c := range []byte(bytes) {
				texts = append(texts, string([]byte{a, b, c}))
			}
		}
	}
	for _, s := range texts {
		agrees(t, s)
	}
}

// P6.1, P6.5, P6.7: many made-up texts.
func TestManyTexts(t *testing.T) {
	d := dice{61}
	seen := map[api.Errno]int{}
	for range 20000 {
		s := d.text(12)
		m := agrees(t, s)
		seen[m.fault]++
		if m.fault == api.OK {
			standWhereTheySay(t, s)
			continue
		}
		if m.decided < len(s) {
			line, column := placeBehind(s[:m.place])
			for _, behind := range []string{"", " ", "\"", "|", "x", "'", "\n", d.text(6), d.text(6)} {
				noScan(t, s[:m.decided+1]+behind, line, column, m.fault)
			}
		}
	}
	for _, e := range []api.Errno{api.OK, api.ErrByte, api.ErrOpen, api.ErrNumeral} {
		if seen[e] < 1000 {
			t.Errorf("error %d only %d times", e, seen[e])
		}
	}
}

// standWhereTheySay asks that tokens rise, that each stands at its place, and that all between them is blanks and comments.
func standWhereTheySay(t *testing.T, s string) {
	t.Helper()
	l, _, _, _ := lexis.Scan(s)
	lines := strings.SplitAfter(s, "\n")
	behind := 0
	for i, k := range l {
		place := k.Column - 1
		for _, line := range lines[:k.Line-1] {
			place += len(line)
		}
		if i > 0 && (k.Line < l[i-1].Line || k.Line == l[i-1].Line && k.Column <= l[i-1].Column) {
			t.Fatalf("Scan(%q): %+v behind %+v", s, k, l[i-1])
		}
		if place < behind || length(gapForm, s[behind:place]) != place-behind {
			t.Fatalf("Scan(%q): %+v does not stand behind %q", s, k, s[:behind])
		}
		text := plain(k)
		if k.Kind == api.THex {
			text = strings.ToLower(s[place : place+len(text)])
		}
		if text != plain(k) || !strings.HasPrefix(strings.ToLower(s[place:]), strings.ToLower(text)) {
			t.Fatalf("Scan(%q): %+v is not there", s, k)
		}
		behind = place + len(text)
	}
	if length(gapForm, s[behind:]) != len(s)-behind {
		t.Fatalf("Scan(%q): more behind the last token", s)
	}
}

// P6.6: more blanks and comments between tokens change nothing but places; a fault behind them moves with them.
func TestMoreBlanks(t *testing.T) {
	d := dice{66}
	for range 3000 {
		l := d.tokens(8)
		var text, spread string
		var places [][2]int
		if d.below(2) == 0 {
			spread = d.gap()
		}
		for _, k := range l {
			text += plain(k) + " "
			line, column := placeBehind(spread)
			places = append(places, [2]int{line, column})
			spread += plain(k) + d.gap()
		}
		close, _, _, e := lexis.Scan(text)
		got, _, _, f := lexis.Scan(spread)
		if e != api.OK || f != api.OK || !slices.Equal(bare(close), l) || !slices.Equal(bare(got), l) {
			t.Fatalf("Scan(%q): error %d; Scan(%q): error %d", text, e, spread, f)
		}
		for i, k := range got {
			if k.Line != places[i][0] || k.Column != places[i][1] {
				t.Fatalf("Scan(%q): token %d at %d, %d; it is at %v", spread, i, k.Line, k.Column, places[i])
			}
		}
		for s, e := range map[string]api.Errno{"'": api.ErrByte, "|": api.ErrOpen, "\"": api.ErrOpen, "00": api.ErrNumeral} {
			line, column := placeBehind(spread)
			noScan(t, spread+s, line, column, e)
			line, column = placeBehind(text)
			noScan(t, text+s, line, column, e)
		}
	}
}
