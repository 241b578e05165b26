package sexp_test

import (
	"slices"
	"strings"
	"testing"

	"tribunal/api"
	"tribunal/lexis"
	"tribunal/sexp"
)

// P7.3, P7.4, P7.5: the chapter's examples.
func TestExamples(t *testing.T) {
	l, _ := table(t, "(a (b) ())")
	isText(t, l, 4, "(a (b) ())")
	isHead(t, l, 4, "a")
	noHead(t, l, 3)
	isDepth(t, l, 4, 2)
	neither(t, []api.Sexp{list(0)}, 0, api.ErrShape)
	l = doubled(40)
	noText(t, l, 40, api.ErrLong)
	isDepth(t, l, 40, 40)
}

// doubled are a, (0 0), (1 1), ..
func doubled(times int) []api.Sexp {
	l := []api.Sexp{atom(word("a"))}
	for i := range times {
		l = append(l, list(i, i))
	}
	return l
}

// P7.3, P7.5: each node of a table.
func TestEachNode(t *testing.T) {
	l, _ := table(t, "a (f x (g) ((y \"z\" |let|)\n:k) () 1.5 #xFF) ( )")
	for i, want := range []string{"a", "f", "x", "g", "(g)", "y", `"z"`, "|let|", `(y "z" |let|)`, ":k", `((y "z" |let|) :k)`, "()", "1.5", "#xff", `(f x (g) ((y "z" |let|) :k) () 1.5 #xff)`, "()"} {
		isText(t, l, i, want)
		isDepth(t, l, i, []int{0, 0, 0, 0, 1, 0, 0, 0, 1, 0, 2, 1, 0, 0, 3, 1}[i])
	}
}

// P7.3: atoms of each kind are written as lexis writes them.
func TestTextOfAtoms(t *testing.T) {
	for _, s := range atoms() {
		k := scanned(t, s)[0]
		l := []api.Sexp{atom(k), list(0), list(0, 0), list(1, 0, 1)}
		isText(t, l, 0, s)
		isText(t, l, 1, "("+s+")")
		isText(t, l, 2, "("+s+" "+s+")")
		isText(t, l, 3, "(("+s+") "+s+" ("+s+"))")
		for i, want := range []int{0, 1, 1, 2} {
			isDepth(t, l, i, want)
		}
	}
}

// P7.3, P7.5: there is no node of that number.
func TestNoNode(t *testing.T) {
	l, _ := table(t, "(a (b) ())")
	for _, l := range [][]api.Sexp{nil, {}, l, l[:1], l[:1:1], {{}}, {list(-1)}} {
		for _, root := range []int{-1, -2, len(l), len(l) + 1, -1 << 63, 1<<63 - 1, 1 << 32} {
			neither(t, l, root, api.ErrArg)
			noHead(t, l, root)
			areKids(t, l, root)
		}
	}
}

// P7.3, P7.5: nodes that are not sound, alone and below others.
func TestNotSound(t *testing.T) {
	for _, bad := range badNodes() {
		l := []api.Sexp{atom(word("a")), bad, list(1), list(0, 1), list(1, 0), list(0, 2), list(5, 0), list(0, 0), list(7, 7, 6, 7), list(7, 0)}
		for _, root := range []int{1, 2, 3, 4, 5, 6, 8} {
			neither(t, l, root, api.ErrShape)
		}
		for _, root := range []int{0, 7, 9} { // what isn't below is of no matter
			want, depth := textByModel(l, root)
			isText(t, l, root, want)
			isDepth(t, l, root, depth)
		}
	}
}

// P7.3, P7.5: a list whose kid is itself, stands above it, or is none, first or last of its kids.
func TestKidsAbove(t *testing.T) {
	for _, n := range []int{1, 2, 3, 4} {
		for kid := -2; kid < 8; kid++ {
			for _, kids := range [][]int{{kid}, {0, kid}, {kid, 0}, {0, kid, 0}, {kid, kid}} {
				l := slices.Repeat([]api.Sexp{atom(word("a"))}, 6)
				l[n], l[5] = list(kids...), list(n)
				if 0 <= kid && kid < n {
					isText(t, l, 5, "((a"+strings.Repeat(" a", len(kids)-1)+"))")
					isDepth(t, l, 5, 2)
					continue
				}
				neither(t, l, n, api.ErrShape)
				neither(t, l, 5, api.ErrShape)
			}
		}
	}
	for _, l := range [][]api.Sexp{{list(0)}, {list(0, 0)}, {list(1), list(0)}, {list(1), list(1)}, {list(), list(0, 1)}, {list(2), list(0), list(1)}} {
		neither(t, l, len(l)-1, api.ErrShape)
	}
	isText(t, []api.Sexp{list(1), list(), list(1)}, 2, "(())")
}

// P7.3, P7.5: a list's Token, an atom's Kids are not looked at.
func TestNotLookedAt(t *testing.T) {
	for _, k := range append(badTokens(), word("x"), closes(), opens()) {
		l := []api.Sexp{atom(word("a")), {Kind: api.SList, Token: k, Kids: []int{0, 0}}, {Kind: api.SList, Token: k}, list(1, 2)}
		isText(t, l, 3, "((a a) ())")
		isDepth(t, l, 3, 2)
		isHead(t, l, 1, "a")
		areKids(t, l, 1, 0, 0)
	}
	for _, kids := range [][]int{nil, {}, {0}, {1, 1}, {-1}, {3}, {1 << 62, -1 << 62}} {
		l := []api.Sexp{list(), {Kind: api.SAtom, Token: word("a"), Kids: kids}, list(1)}
		isText(t, l, 1, "a")
		isText(t, l, 2, "(a)")
		isDepth(t, l, 1, 0)
		isDepth(t, l, 2, 1)
		areKids(t, l, 1)
		areKids(t, l, 2, 1)
		noHead(t, l, 1)
		isHead(t, l, 2, "a")
	}
}

// P7.3, P7.5: kids that several lists share.
func TestSharedKids(t *testing.T) {
	l := []api.Sexp{atom(word("a")), list(0), list(1, 1), list(2, 0, 1, 2), list(3, 1, 3), list()}
	for i, want := range []string{"a", "(a)", "((a) (a))", "(((a) (a)) a (a) ((a) (a)))", "((((a) (a)) a (a) ((a) (a))) (a) (((a) (a)) a (a) ((a) (a))))", "()"} {
		isText(t, l, i, want)
		isDepth(t, l, i, []int{0, 1, 2, 3, 4, 1}[i])
	}
	l = doubled(18)
	s := "a"
	for i := range l {
		isText(t, l, i, s)
		isDepth(t, l, i, i)
		s = "(" + s + " " + s + ")"
	}
}

// P7.3: a node that is not sound counts ahead of a text that is too long, also where it comes last.
func TestShapeAheadOfLong(t *testing.T) {
	l := doubled(40)
	for _, kids := range [][]int{{40, 41}, {41, 40}, {40, 40, 40, 41}} {
		for _, bad := range badNodes() {
			neither(t, append(slices.Clip(l), bad, list(kids...)), 42, api.ErrShape)
		}
		good := append(slices.Clip(l), list(), list(kids...))
		noText(t, good, 42, api.ErrLong)
		isDepth(t, good, 42, 41)
	}
	l[0] = atom(opens())
	neither(t, l, 40, api.ErrShape)
	l[0] = list(1)
	neither(t, l, 40, api.ErrShape)
}

// P7.3: a text of just MaxText bytes, and of one more; P7.5: Depth knows no such bound.
func TestLong(t *testing.T) {
	const most = api.MaxText
	y := strings.Repeat("y", most)
	fits := func(depth int, l ...api.Sexp) {
		t.Helper()
		s, e := sexp.Text(l, len(l)-1)
		if len(s) != most || e != api.OK {
			t.Errorf("Text: %d bytes, error %d", len(s), e)
			return
		}
		nodes, roots := table(t, s)
		isText(t, nodes, roots[0], s)
		isDepth(t, l, len(l)-1, depth)
	}
	tooLong := func(depth int, l ...api.Sexp) {
		t.Helper()
		noText(t, l, len(l)-1, api.ErrLong)
		isDepth(t, l, len(l)-1, depth)
	}
	fits(0, atom(word(y)))
	fits(0, atom(token(api.TString, y[2:])))
	fits(1, atom(word(y[2:])), list(0))
	fits(2, atom(word(y[4:])), list(0), list(1))
	fits(2, atom(word(y[5:])), list(), list(0, 1))
	fits(1, atom(word(y[:most/2])), atom(word(y[:most/2-3])), list(0, 1))
	fits(1, atom(barred(y[:most/2-2])), atom(token(api.TKeyword, y[:most/2-4])), list(1, 0))
	fits(18, append(doubled(17), atom(word(y[:most/2-8])), list(), list(), list(19, 20), list(18, 17, 21))...)
	fits(1, atom(word("x")), atom(word("yy")), list(append(make([]int, most/2-2), 1)...))
	tooLong(1, atom(word(y[1:])), list(0))
	tooLong(1, atom(word(y)), list(0))
	tooLong(1, atom(word(y)), list(0, 0, 0))
	tooLong(2, atom(word(y[3:])), list(0), list(1))
	tooLong(18, append(doubled(17), atom(word(y[:most/2-7])), list(), list(), list(19, 20), list(18, 17, 21))...)
	tooLong(2, atom(word(y[4:])), list(), list(0, 1))
	tooLong(1, atom(word(y[:most/2])), atom(word(y[:most/2-2])), list(0, 1))
	tooLong(1, atom(barred(y[:most/2-2])), atom(token(api.TKeyword, y[:most/2-3])), list(1, 0))
	tooLong(19, doubled(19)...)
	tooLong(1, atom(word("x")), atom(word("yyy")), list(append(make([]int, most/2-2), 1)...))
	tooLong(1, atom(word(y)), list(make([]int, most)...))
	tooLong(1, atom(word(y)), list(make([]int, most/4)...)) // which no call has the time to write
	neither(t, []api.Sexp{atom(word(y + "y"))}, 0, api.ErrShape)
	neither(t, []api.Sexp{atom(token(api.TString, y[1:]))}, 0, api.ErrShape)
}

// P7.3, P7.5: tables that were made by hand may nest deeper than Parse lets them.
func TestDeeper(t *testing.T) {
	l := []api.Sexp{list()}
	for i := range 60000 {
		l = append(l, list(i))
	}
	for _, n := range []int{1, 2, api.MaxDeep, api.MaxDeep + 1, 60001} {
		isText(t, l, n-1, strings.Repeat("(", n)+strings.Repeat(")", n))
		isDepth(t, l, n-1, n)
	}
}

// P7.5: the deepest kid counts, wherever it stands.
func TestDepth(t *testing.T) {
	for s, want := range map[string]int{
		"a": 0, "()": 1, "(a)": 1, "(a a)": 1, "(())": 2, "((a))": 2, "(() a)": 2, "(a ())": 2, "(a (a) ((a)) (a) a)": 3, "(((())) () ())": 4, "(() () ((())))": 4, "((()) ((())) (()))": 4,
	} {
		l, roots := table(t, s)
		isDepth(t, l, roots[0], want)
	}
}

// P7.3, P7.4, P7.5: many tables made by hand, sound or not, held against the model.
func TestManyTables(t *testing.T) {
	d := dice{73}
	sound := 0
	for range 4000 {
		l := d.nodes()
		for n := range l {
			if !soundByModel(l, n) {
				neither(t, l, n, api.ErrShape)
			} else {
				sound++
				s, depth := textByModel(l, n)
				isText(t, l, n, s)
				isDepth(t, l, n, depth)
			}
			if l[n].Kind != api.SList {
				noHead(t, l, n)
				areKids(t, l, n)
				continue
			}
			areKids(t, l, n, l[n].Kids...)
			if k := append(l[n].Kids, -1)[0]; k >= 0 && k < len(l) && l[k].Kind == api.SAtom && l[k].Token.Kind == api.TSymbol && !l[k].Token.Quoted {
				isHead(t, l, n, l[k].Token.Text)
			} else {
				noHead(t, l, n)
			}
		}
	}
	if sound < 5000 {
		t.Errorf("only %d sound nodes", sound)
	}
}

// nodes are a small table.
func (d *dice) nodes() []api.Sexp {
	var l []api.Sexp
	for n := range 1 + d.below(8) {
		switch k := d.below(20); {
		case k == 0:
			l = append(l, api.Sexp{Kind: api.SexpKind(d.below(5)), Token: word("x"), Kids: []int{0}})
		case k == 1:
			l = append(l, atom(pick(d, []api.Token{{}, opens(), closes(), word("a b"), token(api.TNumeral, "00")})))
		case k < 10:
			text := pick(d, atoms())
			tokens, _, _, _ := lexis.Scan(text)
			l = append(l, atom(tokens[0]))
		default:
			var kids []int
			for range d.below(4) {
				kids = append(kids, d.below(n+1))
				if n > 0 && d.below(30) > 0 {
					kids[len(kids)-1] = d.below(n)
				} else if d.below(20) == 0 {
					kids[len(kids)-1] = d.below(12) - 2
				}
			}
			l = append(l, list(kids...))
		}
	}
	return l
}

// P7.6: a root's text, scanned and read, is the same s-expression; all texts are what Join writes of the tokens.
func TestThereAndBack(t *testing.T) {
	d := dice{76}
	for range 3000 {
		words := d.words(40)
		l := scanned(t, d.text(words))
		nodes, roots := parsed(t, l)
		var texts []string
		for _, root := range roots {
			s, e := sexp.Text(nodes, root)
			if e != api.OK {
				t.Fatalf("Text of %d: error %d", root, e)
			}
			texts = append(texts, s)
			again, ends := table(t, s)
			if len(ends) != 1 || ends[0] != len(again)-1 || !sameTree(nodes, root, again, ends[0]) {
				t.Fatalf("%q is read as %+v, %v", s, again, ends)
			}
			isText(t, again, ends[0], s)
		}
		all := strings.Join(texts, " ")
		joined, e := lexis.Join(l)
		if e != api.OK || !slices.Equal(bare(scanned(t, all)), bare(scanned(t, joined))) || !slices.Equal(bare(scanned(t, all)), bare(l)) {
			t.Fatalf("%q; Join writes %q, error %d", all, joined, e)
		}
	}
}

// sameTree tells whether two nodes are the same s-expression, but for places; a list's Token, an atom's Kids are not looked at.
func sameTree(l []api.Sexp, a int, m []api.Sexp, b int) bool {
	one, two := l[a], m[b]
	if one.Kind == api.SAtom {
		return two.Kind == api.SAtom && at(one.Token, 0, 0) == at(two.Token, 0, 0)
	}
	if two.Kind != api.SList || len(one.Kids) != len(two.Kids) {
		return false
	}
	for i := range one.Kids {
		if !sameTree(l, one.Kids[i], m, two.Kids[i]) {
			return false
		}
	}
	return true
}

// P7.6: tables made by hand, with kids that are shared, come back too.
func TestMadeThereAndBack(t *testing.T) {
	d := dice{77}
	for range 2000 {
		l := d.nodes()
		for n := range l {
			if s, e := sexp.Text(l, n); e == api.OK {
				again, roots := table(t, s)
				if len(roots) != 1 || !sameTree(l, n, again, roots[0]) {
					t.Fatalf("%q is read as %+v, %v", s, again, roots)
				}
			}
		}
	}
}
