package sexp_test

import (
	"slices"
	"strings"
	"testing"

	"tribunal/api"
	"tribunal/sexp"
)

// spoil fills a list, its spare room too.
func spoil(l []int) {
	for i := range l[:cap(l)] {
		l[:cap(l)][i] = -77
	}
}

// copied is a table in memory of its own.
func copied(l []api.Sexp) []api.Sexp {
	l = slices.Clone(l)
	for i := range l {
		l[i].Kids = slices.Clone(l[i].Kids)
	}
	return l
}

// What Parse answers is new memory, spare room too; no two of its lists share any.
func TestAnswersAreNew(t *testing.T) {
	tokens := scanned(t, "a (b (c) () (d e f)) g (h (i (j k))) () (l m n o p)")
	nodes, roots := parsed(t, tokens)
	want, wantRoots := copied(nodes), slices.Clone(roots)
	for at := range nodes {
		nodes, roots := parsed(t, tokens)
		kids := nodes[at].Kids
		nodes[at].Kids = want[at].Kids
		spoil(kids)
		if !slices.EqualFunc(nodes, want, sameNode) || !slices.Equal(roots, wantRoots) {
			t.Fatalf("the kids of node %d share memory: %+v, %v", at, nodes, roots)
		}
	}
	spoil(roots)
	if !slices.EqualFunc(nodes, want, sameNode) {
		t.Fatalf("the roots share memory: %+v", nodes)
	}
	for i := range nodes[:cap(nodes)] {
		nodes[:cap(nodes)][i] = api.Sexp{Kind: 77}
	}
	isTable(t, tokens, want, wantRoots)
}

// More is put behind each list of an answer without a trace in the others.
func TestAnswersMayGrow(t *testing.T) {
	d := dice{78}
	for range 300 {
		nodes, roots := table(t, d.text(d.words(50)))
		want, wantRoots := copied(nodes), slices.Clone(roots)
		for i := range nodes {
			for n := range 5 {
				_ = append(nodes[i].Kids, -n)
			}
		}
		_ = append(roots, -1, -2, -3)
		if !slices.EqualFunc(nodes, want, sameNode) || !slices.Equal(roots, wantRoots) {
			t.Fatalf("%+v, %v; want %+v, %v", nodes, roots, want, wantRoots)
		}
	}
}

// No call changes what is handed in, nor a place behind it; a second call answers the same.
func TestNothingIsChanged(t *testing.T) {
	d := dice{79}
	for range 500 {
		tokens := append(make([]api.Token, 0, 99), scanned(t, strings.Join(d.words(20), " "))...)
		if d.below(2) == 0 {
			tokens = append(tokens, pick(&d, []api.Token{opens(), closes(), {Kind: 77}}))
		}
		whole := slices.Clone(tokens[:99])
		nodes, roots, line, column, e := sexp.Parse(tokens)
		again, ends, line2, column2, f := sexp.Parse(tokens)
		if !slices.EqualFunc(nodes, again, sameNode) || !slices.Equal(roots, ends) || line != line2 || column != column2 || e != f {
			t.Fatalf("Parse(%s): another answer the second time", told(tokens))
		}
		if !slices.Equal(whole, tokens[:99]) {
			t.Fatalf("Parse changed %s", told(tokens))
		}
		isUnchanged(t, d.nodes())
		isUnchanged(t, nodes)
	}
}

// isUnchanged asks all of each node of a table twice.
func isUnchanged(t *testing.T, l []api.Sexp) {
	t.Helper()
	l = append(make([]api.Sexp, 0, len(l)+3), l...)
	for i := range l {
		l[i].Kids = append(make([]int, 0, len(l[i].Kids)+3), l[i].Kids...)
	}
	var want []api.Sexp
	for _, n := range l[:cap(l)] {
		n.Kids = slices.Clone(n.Kids[:cap(n.Kids)])
		want = append(want, n)
	}
	for i := -1; i <= len(l); i++ {
		s, e := sexp.Text(l, i)
		depth, f := sexp.Depth(l, i)
		head, ok := sexp.Head(l, i)
		kids := sexp.Kids(l, i)
		spoil(sexp.Kids(l, i))
		s2, e2 := sexp.Text(l, i)
		depth2, f2 := sexp.Depth(l, i)
		head2, ok2 := sexp.Head(l, i)
		if s != s2 || e != e2 || depth != depth2 || f != f2 || head != head2 || ok != ok2 || !slices.Equal(kids, sexp.Kids(l, i)) {
			t.Fatalf("node %d of %+v: another answer the second time", i, l)
		}
	}
	for i, n := range l[:cap(l)] {
		n.Kids = n.Kids[:cap(n.Kids)]
		if !sameNode(n, want[i]) {
			t.Fatalf("node %d: %+v; was %+v", i, n, want[i])
		}
	}
}

// What is turned in the tokens behind Parse is not seen in its answer.
func TestNothingIsKept(t *testing.T) {
	tokens := scanned(t, "(a (b))")
	nodes, roots := parsed(t, tokens)
	for i := range tokens {
		tokens[i] = api.Token{Kind: 77}
	}
	isText(t, nodes, roots[0], "(a (b))")
	if nodes[3].Token != at(opens(), 1, 1) || nodes[0].Token != at(word("a"), 1, 2) {
		t.Errorf("%+v", nodes)
	}
}

// What was asked ahead, with or without a fault, is of no matter.
func TestCallsKnowNothingOfOneAnother(t *testing.T) {
	x := at(word("x"), 1, 1)
	for _, l := range [][]api.Token{nil, {opens()}, {closes()}, {opens(), x}, {{}}, slices.Repeat([]api.Token{opens()}, api.MaxDeep+1)} {
		sexp.Parse(l)
		isTable(t, []api.Token{x}, []api.Sexp{atom(x)}, []int{0})
		neither(t, []api.Sexp{list(0)}, 0, api.ErrShape)
		isText(t, []api.Sexp{atom(x)}, 0, "x")
		isDepth(t, []api.Sexp{atom(x)}, 0, 0)
	}
}

// No call panics, whatever it is given.
func TestAnythingGoes(t *testing.T) {
	d := dice{80}
	numbers := []int{-1 << 63, -2, -1, 0, 1, 2, 3, 4, 5, 6, 1 << 32, 1<<63 - 1}
	for range 5000 {
		tokens := make([]api.Token, d.below(6))
		for i := range tokens {
			tokens[i] = api.Token{Kind: api.TokenKind(pick(&d, numbers)), Text: pick(&d, []string{"", "(", ")", "a", "0", "\x00"}), Quoted: d.below(2) == 0, Line: pick(&d, numbers), Column: pick(&d, numbers)}
		}
		agrees(t, tokens)
		l := make([]api.Sexp, d.below(6))
		for i := range l {
			l[i] = api.Sexp{Kind: api.SexpKind(d.below(4)), Token: pick(&d, append(tokens, word("a")))}
			for range d.below(4) {
				l[i].Kids = append(l[i].Kids, pick(&d, numbers))
			}
		}
		root := pick(&d, numbers)
		switch {
		case root < 0 || root >= len(l):
			neither(t, l, root, api.ErrArg)
		case !soundByModel(l, root):
			neither(t, l, root, api.ErrShape)
		default:
			s, depth := textByModel(l, root)
			isText(t, l, root, s)
			isDepth(t, l, root, depth)
		}
		sexp.Head(l, root)
		sexp.Kids(l, root)
	}
}

// Each root of a great table is asked at the cost of what stands in it.
func TestManyRoots(t *testing.T) {
	nodes, roots := table(t, strings.Repeat("(a) ", api.MaxText/4))
	for _, root := range roots {
		isText(t, nodes, root, "(a)")
		isDepth(t, nodes, root, 1)
		isHead(t, nodes, root, "a")
		areKids(t, nodes, root, root-1)
	}
}
