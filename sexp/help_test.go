package sexp_test

import (
	"slices"
	"strings"
	"testing"

	"tribunal/api"
	"tribunal/lexis"
	"tribunal/sexp"
)

func token(kind api.TokenKind, text string) api.Token { return api.Token{Kind: kind, Text: text} }

func word(text string) api.Token { return token(api.TSymbol, text) }

func barred(text string) api.Token {
	return api.Token{Kind: api.TSymbol, Text: text, Quoted: true}
}

func opens() api.Token { return token(api.TOpen, "(") }

func closes() api.Token { return token(api.TClose, ")") }

func at(t api.Token, line, column int) api.Token {
	t.Line, t.Column = line, column
	return t
}

// atoms are how tokens of each kind are written that are atoms.
func atoms() []string {
	return []string{"0", "120", "1.50", "#x0f", "#b01", `""`, `"a b"`, `"a""(b"`, "\"\n;)\"", "x", "let", "_", "-1", "||", "|a b|", "|let|", "|)\n(|", ":named", ":0"}
}

// badTokens are none that Scan gives.
func badTokens() []api.Token {
	return []api.Token{
		{}, token(77, ""), token(77, "x"), token(0, "x"), token(-1, "("), token(api.TKeyword+1, "x"), token(1<<40, "x"),
		token(api.TOpen, ""), token(api.TOpen, ")"), token(api.TOpen, "(("), token(api.TClose, ""), token(api.TClose, "("), token(api.TClose, " )"),
		{Kind: api.TOpen, Text: "(", Quoted: true}, {Kind: api.TClose, Text: ")", Quoted: true},
		token(api.TNumeral, ""), token(api.TNumeral, "07"), token(api.TNumeral, "-1"), token(api.TDecimal, "1"), token(api.THex, "FF"), token(api.THex, ""), token(api.TBinary, "2"),
		token(api.TString, "\x00"), {Kind: api.TString, Text: "a", Quoted: true}, word(""), word("a b"), word("1"), word("("), word(")"), barred("|"), barred(`\`), token(api.TKeyword, ""), token(api.TKeyword, ":a"),
		word(strings.Repeat("x", api.MaxText+1)),
	}
}

func atom(t api.Token) api.Sexp { return api.Sexp{Kind: api.SAtom, Token: t} }

func list(kids ...int) api.Sexp { return api.Sexp{Kind: api.SList, Token: opens(), Kids: kids} }

// badNodes are not sound, wherever they stand ahead of the number 1000.
func badNodes() []api.Sexp {
	nodes := []api.Sexp{
		{}, {Kind: 3, Token: word("x")}, {Kind: -1, Kids: []int{}}, {Kind: 77, Token: opens()}, {Kind: 1 << 40},
		atom(opens()), atom(closes()),
		list(-1), list(1000), list(0, -1), list(-1, 0), list(0, 0, 1<<40, 0), list(-1 << 63), list(1<<63 - 1),
	}
	for _, t := range badTokens() {
		nodes = append(nodes, atom(t))
	}
	return nodes
}

// scanned are the tokens of a text.
func scanned(t *testing.T, s string) []api.Token {
	t.Helper()
	l, _, _, e := lexis.Scan(s)
	if e != api.OK {
		t.Fatalf("Scan(%q): error %d", brief(s), e)
	}
	return l
}

// table is what Parse gives of a text.
func table(t *testing.T, s string) ([]api.Sexp, []int) {
	t.Helper()
	return parsed(t, scanned(t, s))
}

func parsed(t *testing.T, l []api.Token) ([]api.Sexp, []int) {
	t.Helper()
	nodes, roots, line, column, e := sexp.Parse(l)
	if line != 0 || column != 0 || e != api.OK {
		t.Fatalf("Parse(%s): %d, %d, error %d", told(l), line, column, e)
	}
	return nodes, roots
}

// isTable asks for the nodes and roots of tokens.
func isTable(t *testing.T, l []api.Token, nodes []api.Sexp, roots []int) {
	t.Helper()
	got, gotRoots, line, column, e := sexp.Parse(l)
	if !slices.EqualFunc(got, nodes, sameNode) || !slices.Equal(gotRoots, roots) || line != 0 || column != 0 || e != api.OK {
		t.Errorf("Parse(%s): %+v, %v, %d, %d, error %d; want %+v, %v", told(l), got, gotRoots, line, column, e, nodes, roots)
	}
}

func sameNode(a, b api.Sexp) bool {
	return a.Kind == b.Kind && a.Token == b.Token && slices.Equal(a.Kids, b.Kids)
}

func noTable(t *testing.T, l []api.Token, line, column int, want api.Errno) {
	t.Helper()
	if nodes, roots, i, j, e := sexp.Parse(l); len(nodes) != 0 || len(roots) != 0 || i != line || j != column || e != want {
		t.Errorf("Parse(%s): %d nodes, %d roots, %d, %d, error %d; want %d, %d, error %d", told(l), len(nodes), len(roots), i, j, e, line, column, want)
	}
}

func isText(t *testing.T, l []api.Sexp, root int, want string) {
	t.Helper()
	if s, e := sexp.Text(l, root); s != want || e != api.OK {
		t.Errorf("Text of %d: %q, error %d; want %q", root, brief(s), e, brief(want))
	}
}

func noText(t *testing.T, l []api.Sexp, root int, want api.Errno) {
	t.Helper()
	if s, e := sexp.Text(l, root); s != "" || e != want {
		t.Errorf("Text of %d: %q, error %d; want error %d", root, brief(s), e, want)
	}
}

func isDepth(t *testing.T, l []api.Sexp, root, want int) {
	t.Helper()
	if n, e := sexp.Depth(l, root); n != want || e != api.OK {
		t.Errorf("Depth of %d: %d, error %d; want %d", root, n, e, want)
	}
}

func noDepth(t *testing.T, l []api.Sexp, root int, want api.Errno) {
	t.Helper()
	if n, e := sexp.Depth(l, root); n != 0 || e != want {
		t.Errorf("Depth of %d: %d, error %d; want error %d", root, n, e, want)
	}
}

// neither asks that Text and Depth refuse a node for the same reason.
func neither(t *testing.T, l []api.Sexp, root int, want api.Errno) {
	t.Helper()
	noText(t, l, root, want)
	noDepth(t, l, root, want)
}

func isHead(t *testing.T, l []api.Sexp, root int, want string) {
	t.Helper()
	if s, ok := sexp.Head(l, root); s != want || !ok {
		t.Errorf("Head of %d: %q, %v; want %q", root, s, ok, want)
	}
}

func noHead(t *testing.T, l []api.Sexp, root int) {
	t.Helper()
	if s, ok := sexp.Head(l, root); s != "" || ok {
		t.Errorf("Head of %d: %q, %v", root, s, ok)
	}
}

func areKids(t *testing.T, l []api.Sexp, root int, want ...int) {
	t.Helper()
	if kids := sexp.Kids(l, root); !slices.Equal(kids, want) {
		t.Errorf("Kids of %d: %v; want %v", root, kids, want)
	}
}

// brief is a text as it may be told.
func brief(s string) string {
	if len(s) > 200 {
		return s[:100] + " .. " + s[len(s)-100:]
	}
	return s
}

// told are tokens as they may be told.
func told(l []api.Token) string {
	var s strings.Builder
	for _, t := range l[:min(len(l), 30)] {
		s.WriteString(brief(t.Text) + " ")
	}
	return s.String()
}

// bare are tokens without their places.
func bare(l []api.Token) []api.Token {
	l = slices.Clone(l)
	for i := range l {
		l[i].Line, l[i].Column = 0, 0
	}
	return l
}

// dice are numbers that look like any, the same ones each time.
type dice struct{ state uint64 }

func (d *dice) roll() uint64 {
	d.state += 0x9e3779b97f4a7c15
	z := d.state
	z = (z ^ z>>30) * 0xbf58476d1ce4e5b9
	z = (z ^ z>>27) * 0x94d049bb133111eb
	return z ^ z>>31
}

func (d *dice) below(n int) int { return int(d.roll() % uint64(n)) }

func pick[T any](d *dice, list []T) T { return list[d.below(len(list))] }

// words are s-expressions as texts of tokens, one behind the other.
func (d *dice) words(most int) []string {
	var l []string
	open := 0
	for range d.below(most + 1) {
		switch n := d.below(5); {
		case n < 2:
			l = append(l, pick(d, atoms()))
		case n < 4 || open == 0:
			l = append(l, "(")
			open++
		default:
			l = append(l, ")")
			open--
		}
	}
	return append(l, slices.Repeat([]string{")"}, open)...)
}

// text is tokens with blanks and comments of all sorts between them.
func (d *dice) text(words []string) string {
	var s strings.Builder
	for _, w := range words {
		s.WriteString(pick(d, []string{" ", "\n", "\t \r\n", " ; (a \"b |c\n", ";)\n\n  "}) + w)
	}
	return s.String()
}
