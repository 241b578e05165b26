package sexp_test

import (
	"slices"
	"strings"
	"testing"

	"tribunal/api"
	"tribunal/sexp"
)

// P7.2: the chapter's examples.
func TestExamplesOfParse(t *testing.T) {
	nodes, roots := table(t, "(a (b) ())")
	want := []api.Sexp{
		atom(at(word("a"), 1, 2)), atom(at(word("b"), 1, 5)),
		{Kind: api.SList, Token: at(opens(), 1, 4), Kids: []int{1}}, {Kind: api.SList, Token: at(opens(), 1, 8)}, {Kind: api.SList, Token: at(opens(), 1, 1), Kids: []int{0, 2, 3}},
	}
	if !slices.EqualFunc(nodes, want, sameNode) || !slices.Equal(roots, []int{4}) {
		t.Errorf("%+v, %v; want %+v", nodes, roots, want)
	}
	isTable(t, scanned(t, "a b"), []api.Sexp{atom(at(word("a"), 1, 1)), atom(at(word("b"), 1, 3))}, []int{0, 1})
	isTable(t, nil, nil, nil)
	isTable(t, []api.Token{}, nil, nil)
	isTable(t, scanned(t, " ; nothing\n"), nil, nil)
	noTable(t, scanned(t, "a )"), 1, 3, api.ErrClose)
	noTable(t, scanned(t, "((a)"), 1, 1, api.ErrEnd)
	noTable(t, []api.Token{{Kind: 77}}, 0, 0, api.ErrShape)
}

// P7.2: atoms of each kind, alone, in a list and in a list of lists, with whatever places.
func TestAtoms(t *testing.T) {
	for _, s := range atoms() {
		k := scanned(t, s)[0]
		for _, place := range [][2]int{{1, 1}, {0, 0}, {3, 17}, {-4, -5}, {1<<63 - 1, -1 << 63}} {
			k := at(k, place[0], place[1])
			begin, end := at(opens(), place[1], place[0]), at(closes(), 8, 9)
			isTable(t, []api.Token{k}, []api.Sexp{atom(k)}, []int{0})
			isTable(t, []api.Token{k, k, k}, []api.Sexp{atom(k), atom(k), atom(k)}, []int{0, 1, 2})
			isTable(t, []api.Token{begin, k, end}, []api.Sexp{atom(k), {Kind: api.SList, Token: begin, Kids: []int{0}}}, []int{1})
			isTable(t, []api.Token{k, begin, opens(), k, end, k, end}, []api.Sexp{atom(k), atom(k), list(1), atom(k), {Kind: api.SList, Token: begin, Kids: []int{2, 3}}}, []int{0, 4})
		}
	}
}

// P7.2: in which order nodes are numbered, and what are roots.
func TestOrder(t *testing.T) {
	a := atom(word("a"))
	for s, want := range map[string]struct {
		nodes []api.Sexp
		roots []int
	}{
		"()":                {[]api.Sexp{list()}, []int{0}},
		"() ()":             {[]api.Sexp{list(), list()}, []int{0, 1}},
		"(())":              {[]api.Sexp{list(), list(0)}, []int{1}},
		"(()())":            {[]api.Sexp{list(), list(), list(0, 1)}, []int{2}},
		"((()))":            {[]api.Sexp{list(), list(0), list(1)}, []int{2}},
		"a (a a) a":         {[]api.Sexp{a, a, a, list(1, 2), a}, []int{0, 3, 4}},
		"(a) a (a)":         {[]api.Sexp{a, list(0), a, a, list(3)}, []int{1, 2, 4}},
		"((a) a (a (a)) a)": {[]api.Sexp{a, list(0), a, a, a, list(4), list(3, 5), a, list(1, 2, 6, 7)}, []int{8}},
		"(a () a)":          {[]api.Sexp{a, list(), a, list(0, 1, 2)}, []int{3}},
		"((a a) (a a))":     {[]api.Sexp{a, a, list(0, 1), a, a, list(3, 4), list(2, 5)}, []int{6}},
		"((((a) a) a) a)":   {[]api.Sexp{a, list(0), a, list(1, 2), a, list(3, 4), a, list(5, 6)}, []int{7}},
		"(a (a (a (a))))":   {[]api.Sexp{a, a, a, a, list(3), list(2, 4), list(1, 5), list(0, 6)}, []int{7}},
	} {
		isTable(t, bare(scanned(t, s)), want.nodes, want.roots)
	}
}

// P7.1: each fault, with the line and column of its token.
func TestFaults(t *testing.T) {
	for s, want := range map[string]struct {
		line, column int
		e            api.Errno
	}{
		")": {1, 1, api.ErrClose}, "\n\n  )": {3, 3, api.ErrClose}, "())": {1, 3, api.ErrClose}, "a\n(b)\n c ) )": {3, 4, api.ErrClose}, "(a))(": {1, 4, api.ErrClose}, "))((": {1, 1, api.ErrClose}, ")(": {1, 1, api.ErrClose},
		"(": {1, 1, api.ErrEnd}, "\n (": {2, 2, api.ErrEnd}, "((": {1, 2, api.ErrEnd}, "(()": {1, 1, api.ErrEnd}, "(a\n(b\n(c) (d)": {2, 1, api.ErrEnd}, "() (": {1, 4, api.ErrEnd}, "(() (a (b) c": {1, 5, api.ErrEnd}, "(((a) b)": {1, 1, api.ErrEnd}, "(((a) b) (": {1, 10, api.ErrEnd},
	} {
		noTable(t, scanned(t, s), want.line, want.column, want.e)
	}
}

// P7.1: a token that is none, wherever it stands, at whatever place.
func TestNoToken(t *testing.T) {
	x := at(word("x"), 9, 9)
	for _, k := range badTokens() {
		for _, place := range [][2]int{{1, 1}, {0, 0}, {7, 12}, {-3, 5}, {1<<63 - 1, -1 << 63}} {
			k := at(k, place[0], place[1])
			begin, end := at(opens(), 8, 8), at(closes(), 7, 7)
			for _, l := range [][]api.Token{{k}, {k, x}, {x, k}, {begin, k}, {begin, k, end}, {begin, end, k, end}, {begin, begin, x, k}, {k, end}, {k, begin}, {x, begin, end, k, k}} {
				noTable(t, l, place[0], place[1], api.ErrShape)
			}
			noTable(t, []api.Token{end, k}, 7, 7, api.ErrClose)
			noTable(t, []api.Token{begin, end, end, k}, 7, 7, api.ErrClose)
		}
	}
}

// P7.1: which of two faults comes first.
func TestFirstFault(t *testing.T) {
	bad, late := at(token(77, "x"), 5, 6), at(token(api.TNumeral, "07"), 7, 8)
	noTable(t, []api.Token{bad, late}, 5, 6, api.ErrShape)
	noTable(t, []api.Token{late, bad}, 7, 8, api.ErrShape)
	deep := slices.Repeat([]api.Token{at(opens(), 2, 2)}, api.MaxDeep)
	over, end := at(opens(), 3, 4), at(closes(), 9, 1)
	behind := func(l ...api.Token) []api.Token { return append(slices.Clip(deep), l...) }
	noTable(t, behind(over, bad), 3, 4, api.ErrDeep)
	noTable(t, behind(bad, over), 5, 6, api.ErrShape)
	noTable(t, behind(at(token(api.TOpen, "["), 6, 1), over), 6, 1, api.ErrShape)
	noTable(t, append([]api.Token{bad}, behind(over)...), 5, 6, api.ErrShape)
	noTable(t, append([]api.Token{end}, behind(over)...), 9, 1, api.ErrClose)
	noTable(t, append(behind(over), slices.Repeat([]api.Token{end}, api.MaxDeep+5)...), 3, 4, api.ErrDeep)
	noTable(t, append(behind(), slices.Repeat([]api.Token{end}, api.MaxDeep+1)...), 9, 1, api.ErrClose)
	noTable(t, behind(at(word("x"), 1, 1)), 2, 2, api.ErrEnd)
	noTable(t, behind(end, over), 3, 4, api.ErrEnd)
	noTable(t, behind(end, over, at(opens(), 4, 4)), 4, 4, api.ErrDeep)
}

// P7.1, P7.2: lists that nest just MaxDeep deep, and one deeper.
func TestDeep(t *testing.T) {
	const most = api.MaxDeep
	s := strings.Repeat("(", most) + strings.Repeat(")", most)
	nodes, roots := table(t, s)
	if len(nodes) != most || !slices.Equal(roots, []int{most - 1}) {
		t.Errorf("%d nodes, roots %v", len(nodes), roots)
	}
	for i, n := range nodes {
		if n.Kind != api.SList || n.Token != at(opens(), 1, most-i) || len(n.Kids) != min(i, 1) || i > 0 && n.Kids[0] != i-1 {
			t.Fatalf("node %d: %+v", i, n)
		}
	}
	isText(t, nodes, most-1, s)
	isDepth(t, nodes, most-1, most)
	noTable(t, scanned(t, "("+s+")"), 1, most+1, api.ErrDeep)
	noTable(t, scanned(t, "\n"+strings.Repeat("(", most+1)), 2, most+1, api.ErrDeep)
	noTable(t, scanned(t, s+"\n (a"+s+")"), 2, most+3, api.ErrDeep)
	wide := strings.Repeat("(", most-1) + "() () (x) ()" + strings.Repeat(")", most-1)
	nodes, roots = table(t, wide+" "+s)
	isText(t, nodes, roots[0], wide)
	isDepth(t, nodes, roots[0], most)
	isText(t, nodes, roots[1], s)
	noTable(t, scanned(t, strings.Repeat("(", most-1)+"()(()"), 1, most+3, api.ErrDeep)
	noTable(t, scanned(t, strings.Repeat("(", most-1)+"()(x"), 1, most+2, api.ErrEnd)
}

// P7.1, P7.2: all short lists of telling tokens.
func TestAllShortLists(t *testing.T) {
	kinds := []api.Token{opens(), closes(), word("a"), token(api.TOpen, "")}
	var grow func(l []api.Token)
	grow = func(l []api.Token) {
		agrees(t, l)
		if len(l) < 8 {
			for _, k := range kinds {
				grow(append(slices.Clip(l), at(k, 1+len(l)/3, 1+len(l)%3)))
			}
		}
	}
	grow(nil)
}

// agrees holds Parse against the model.
func agrees(t *testing.T, l []api.Token) {
	t.Helper()
	nodes, roots, place, e := readByModel(l)
	if e == api.OK {
		isTable(t, l, nodes, roots)
		return
	}
	noTable(t, l, l[place].Line, l[place].Column, e)
}

// P7.1, P7.2: many lists of tokens, some with a fault or two.
func TestManyLists(t *testing.T) {
	d := dice{71}
	for range 3000 {
		l := scanned(t, d.text(d.words(30)))
		agrees(t, l)
		for range d.below(3) {
			i := d.below(len(l) + 1)
			k := pick(&d, []api.Token{opens(), closes(), closes(), word("x"), token(api.TNumeral, "00")})
			l = slices.Insert(l, i, at(k, d.below(9), d.below(9)))
			j := d.below(len(l))
			l = slices.Delete(l, j, min(len(l), j+d.below(2)))
		}
		agrees(t, l)
	}
}

// P7.2: each node is a kid of one list, or a root; kids and roots rise.
func TestEachNodeOnce(t *testing.T) {
	d := dice{72}
	for range 500 {
		nodes, roots := table(t, d.text(d.words(60)))
		all := slices.Clone(roots)
		if !slices.IsSorted(roots) {
			t.Fatalf("roots %v", roots)
		}
		for i, n := range nodes {
			if !slices.IsSorted(n.Kids) || len(n.Kids) > 0 && n.Kids[len(n.Kids)-1] >= i || n.Kind == api.SAtom && len(n.Kids) > 0 {
				t.Fatalf("node %d: %+v", i, n)
			}
			all = append(all, n.Kids...)
		}
		slices.Sort(all)
		for i := range nodes {
			if all[i] != i {
				t.Fatalf("%+v, %v", nodes, roots)
			}
		}
		if len(all) != len(nodes) {
			t.Fatalf("%d nodes, %d of them in lists or roots", len(nodes), len(all))
		}
	}
}

// P7.2: as many tokens as a text may have.
func TestManyTokens(t *testing.T) {
	const most = api.MaxText
	nodes, roots := table(t, strings.Repeat("a ", most/2))
	if len(nodes) != most/2 || len(roots) != most/2 || roots[most/2-1] != most/2-1 {
		t.Errorf("%d nodes, %d roots", len(nodes), len(roots))
	}
	nodes, roots = table(t, "("+strings.Repeat("()", most/2-1)+")")
	if len(nodes) != most/2 || len(roots) != 1 || len(nodes[most/2-1].Kids) != most/2-1 {
		t.Errorf("%d nodes, %d roots", len(nodes), len(roots))
	}
	const pairs = (most - 2*(api.MaxDeep-1)) / len("() ")
	begin, end := strings.Repeat("(", api.MaxDeep-1), strings.Repeat(")", api.MaxDeep-1)
	nodes, roots = table(t, begin+strings.Repeat("()", pairs)+end)
	if len(nodes) != pairs+api.MaxDeep-1 || len(roots) != 1 {
		t.Errorf("%d nodes, %d roots", len(nodes), len(roots))
	}
	isText(t, nodes, roots[0], begin+strings.Repeat("() ", pairs)[:3*pairs-1]+end)
}

// P7.2: Parse takes more than a text may have.
func TestMoreTokens(t *testing.T) {
	half := word(strings.Repeat("y", api.MaxText/2))
	nodes, roots, _, _, e := sexp.Parse([]api.Token{opens(), half, half, half, closes(), half})
	if len(nodes) != 5 || !slices.Equal(roots, []int{3, 4}) || e != api.OK {
		t.Errorf("%d nodes, roots %v, error %d", len(nodes), roots, e)
	}
}
