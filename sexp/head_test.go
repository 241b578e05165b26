package sexp_test

import (
	"slices"
	"testing"

	"tribunal/api"
	"tribunal/sexp"
)

// P7.4: lists that begin with a symbol.
func TestHead(t *testing.T) {
	for s, want := range map[string]string{
		"(a)": "a", "(assert (= x 1))": "assert", "(let)": "let", "(_ bv5 4)": "_", "(! x :named y)": "!", "(-1)": "-1", "(a |b|)": "a", "(a a)": "a", "(a (b))": "a", "(check-sat)": "check-sat", "( ; c\n a)": "a", "(=> b a)": "=>",
	} {
		l, roots := table(t, s)
		isHead(t, l, roots[0], want)
	}
}

// P7.4: lists that begin with something else, and what is no list.
func TestNoHead(t *testing.T) {
	for _, s := range []string{"()", "(())", "((a))", "((a) b)", "(() a)", "(|a|)", "(|let| a)", "(|| a)", "(1 a)", "(1.5 a)", "(#xff a)", "(#b1 a)", "(\"a\" a)", "(\"\" a)", "(:a a)", "a", "|a|", "1", "\"a\"", ":a"} {
		l, roots := table(t, s)
		noHead(t, l, roots[0])
	}
}

// P7.4: a Head that is not there, of tables made by hand.
func TestHeadOfAny(t *testing.T) {
	a := atom(word("a"))
	for _, kid := range []int{-1, 3, 4, -1 << 63, 1<<63 - 1} {
		l := []api.Sexp{a, list(kid), list(kid, 0)}
		noHead(t, l, 1)
		noHead(t, l, 2)
		areKids(t, l, 1, kid)
		areKids(t, l, 2, kid, 0)
	}
	isHead(t, []api.Sexp{a, list(0, -1, 7, 1)}, 1, "a") // the first kid alone is looked at
	for _, bad := range []api.Sexp{{Kind: api.SAtom, Token: token(api.TKeyword, "a")}, {Token: word("a")}, {Kind: 77, Token: word("a")}, {Kind: api.SList, Token: word("a")}, atom(token(0, "a")), atom(token(77, "a")), atom(opens()), atom(closes()), atom(barred("a"))} {
		noHead(t, []api.Sexp{bad, list(0)}, 1)
	}
	for _, kind := range []api.SexpKind{0, -1, api.SAtom, 3, 77} {
		l := []api.Sexp{a, {Kind: kind, Token: word("b"), Kids: []int{0}}}
		noHead(t, l, 1)
		areKids(t, l, 1)
	}
}

// P7.4: the kids of lists, of atoms, of what is not there.
func TestKids(t *testing.T) {
	l, _ := table(t, "(a (b) () (c d))")
	for i, want := range [][]int{nil, nil, {1}, nil, nil, nil, {4, 5}, {0, 2, 3, 6}} {
		areKids(t, l, i, want...)
	}
	for _, i := range []int{-1, 8, 9, -1 << 63, 1<<63 - 1} {
		areKids(t, l, i)
	}
	for _, kids := range [][]int{{-1}, {5, 1, 1, 0}, {1 << 62}, {0, 0}} {
		areKids(t, []api.Sexp{list(kids...)}, 0, kids...)
	}
}

// P7.4: kids are new memory each time.
func TestKidsAreNew(t *testing.T) {
	l, roots := table(t, "(a (b) () (c d))")
	want := slices.Clone(l[roots[0]].Kids)
	for range 3 {
		areKids(t, l, roots[0], want...)
		kids := sexp.Kids(l, roots[0])
		spoil(kids)
		spoil(sexp.Kids(l, 3))
	}
	areKids(t, l, roots[0], want...)
}
