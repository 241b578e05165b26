package elab_test

import (
	"testing"

	"tribunal/api"
	"tribunal/elab"
)

// growing is a table of s-expressions that counts their steps.
type growing struct {
	l    []api.Sexp
	made map[int]int // fillers by their steps
}

func (g *growing) put(n api.Sexp) int {
	g.l = append(g.l, n)
	return len(g.l) - 1
}

// filler is a Bool term of so many steps, in few nodes.
func (g *growing) filler(steps int) int {
	if n, there := g.made[steps]; there {
		return n
	}
	var n int
	switch {
	case steps == 1:
		n = g.put(word("p"))
	case steps%2 == 0:
		arg := g.filler(steps - 1)
		n = g.put(list(g.put(word("not")), arg))
	default:
		arg := g.filler((steps - 1) / 2)
		n = g.put(list(g.put(word("xor")), arg, arg))
	}
	g.made[steps] = n
	return n
}

// sortFiller is a sort of so many steps, but for 2, by One and First.
func (g *growing) sortFiller(steps int) int {
	if n, there := g.made[steps]; there {
		return n
	}
	var n int
	first := func(a, b int) {
		x, y := g.sortFiller(a), g.sortFiller(b)
		n = g.put(list(g.put(word("First")), x, y))
	}
	switch {
	case steps == 1:
		n = g.put(word("Int"))
	case steps == 6:
		first(1, 3)
	case steps == 3 || steps == 5 || steps == 7:
		x := g.sortFiller(steps - 2)
		n = g.put(list(g.put(word("One")), x))
	default:
		first((steps-2)/2, steps-2-(steps-2)/2)
	}
	g.made[steps] = n
	return n
}

// growingOf has an s-expression.
func growingOf(t *testing.T, s string) (*growing, int) {
	nodes, root := read(t, s)
	return &growing{nodes, map[int]int{}}, root
}

func stepsOf(t *testing.T, e *elab.Env, g *growing, root, place int, want api.Errno) {
	t.Helper()
	i, at, bad := e.Term(tableOf(t, e), g.l, root)
	if bad != want || at != place || want != api.OK && i != 0 {
		t.Errorf("%d, error %d at %d, %q; want error %d at %d, %q", i, bad, at, brief(textOf(g.l, at)), want, place, brief(textOf(g.l, place)))
	}
}

// P8.4: just so many steps as there may be, and one more: which s-expressions count.
func TestSteps(t *testing.T) {
	e := env(t)
	defines(t, e, "twice", integer, "(double (double m))", sel("m", integer))
	for _, c := range []struct {
		s     string
		steps int
		last  fault // where the last of them counts
	}{
		{"p", 1, fault{"p", 0, 0}},
		{"(not p)", 2, fault{"p", 0, 0}},
		{"(p)", 1, fault{"(p)", 0, 0}},
		{"(let ((k p) (n (not q))) (and k n k r))", 1 + 1 + 2 + 1 + 4, fault{"r", 0, 0}},
		{"(let ((k p)) (let ((n k)) n))", 5, fault{"n", 1, 0}},
		{"(! p :k (a b) c)", 2, fault{"p", 0, 0}},
		{"(as p Bool)", 2, fault{"Bool", 0, 0}},
		{"(= (_ bv5 4) b)", 3, fault{"b", 0, 0}},
		{"(= b #b0101)", 3, fault{"#b0101", 0, 0}},
		{"((_ is cons) l)", 2, fault{"l", 0, 0}},
		{"(= ((_ extract 3 0) b8) b)", 4, fault{"b", 0, 0}},
		{"((as |is so| Bool) m)", 3, fault{"m", 0, 0}},
		{"((as p Bool))", 2, fault{"(as p Bool)", 0, 0}},
		{"(= a ((as const (Array Int Int)) 1))", 7, fault{"1", 0, 0}},
		{"(= a ((as const Ints) 1))", 1 + 1 + 1 + 1 + 3 + 1, fault{"1", 0, 0}},
		{"(= five x)", 4, fault{"x", 0, 0}},
		{"(= x five)", 4, fault{"five", 0, 0}},
		{"(= x (five))", 4, fault{"(five)", 0, 0}},
		{"(= x (as five Int))", 5, fault{"Int", 0, 0}},
		{"(= x (double y))", 1 + 1 + 1 + 1 + 3, fault{"(double y)", 0, 0}},
		{"(= x (double (double y)))", 1 + 1 + 1 + (1 + 1 + 3) + 3, fault{"(double (double y))", 0, 0}},
		{"(= x (twice y))", 1 + 1 + 1 + 1 + (1 + 1 + 1 + 3 + 3), fault{"(twice y)", 0, 0}},
		{"(both five (= x 1))", 1 + 2 + 3 + 5, fault{"(both five (= x 1))", 0, 0}},
		{"(= (as a Ints) a)", 1 + 1 + 1 + 3 + 1, fault{"a", 1, 0}},
		{"(= a (as a Ints))", 1 + 1 + 1 + 1 + 3, fault{"Ints", 0, 0}},
		{"(= a (as a (Pair Int)))", 1 + 1 + 1 + 1 + 1 + 3, fault{"(Pair Int)", 0, 0}},
		{"(= a (as a (Array Int Int)))", 6, fault{"Int", 1, 0}},
		{"(= b (as b (_ BitVec 4)))", 4, fault{"(_ BitVec 4)", 0, 0}},
	} {
		g, root := growingOf(t, c.s)
		rest := api.MaxElab - 1 - c.steps
		last := find(t, g.l, root, c.last)
		and := g.put(word("and"))
		stepsOf(t, e, g, g.put(list(and, g.filler(rest), root)), 0, api.OK)
		stepsOf(t, e, g, g.put(list(and, g.filler(rest+1), root)), last, api.ErrMany)
	}
}

// P8.4: one s-expression too many is that ahead of all else that is wrong with it; what is wrong ahead of it counts first.
func TestTooManyStepsFirst(t *testing.T) {
	e := env(t)
	for _, s := range []string{"nobody", "()", "(f nobody)", "(let (k) nobody)", "1.5", "(as p 5)", "(forall p)", "(true)", "((5) p)"} {
		g, root := growingOf(t, s)
		nodes := g.l
		_, at, want := e.Term(tableOf(t, e), nodes, root)
		and := g.put(word("and"))
		stepsOf(t, e, g, g.put(list(and, g.filler(api.MaxElab-1), root)), root, api.ErrMany)
		if at == root || s == "(true)" || s == "((5) p)" || s == "(let (k) nobody)" {
			stepsOf(t, e, g, g.put(list(and, g.filler(api.MaxElab-2), root)), at, want)
		}
		stepsOf(t, e, g, g.put(list(and, root, g.filler(api.MaxElab))), at, want)
	}
	g, root := growingOf(t, "(g3 ((as |is so| Bool) m) ((as |is so| (Pair Bool)) m))")
	and, kids := g.put(word("and")), g.l[root].Kids
	for i, steps := range []int{3, 7} {
		app := kids[1+i]
		head := g.l[app].Kids[0]
		stepsOf(t, e, g, g.put(list(and, g.filler(api.MaxElab-2), app)), head, api.ErrMany)
		stepsOf(t, e, g, g.put(list(and, g.filler(api.MaxElab-steps), app)), g.l[app].Kids[1], api.ErrMany)
	}
}

// P8.3: a definition's steps count as often as it is applied, and in the call that defines it.
func TestStepsOfDefinitions(t *testing.T) {
	e := env(t)
	g := &growing{nil, map[int]int{}}
	most := g.filler(api.MaxElab)
	more := g.filler(api.MaxElab + 1)
	before := state(t, e)
	if at, bad := e.DefineFun("great", nil, boolean, g.l, more); at != g.filler(1) || bad != api.ErrMany {
		t.Errorf("one more: %d, error %d", at, bad)
	}
	same(t, before, state(t, e))
	if at, bad := e.DefineFun("great", nil, boolean, g.l, most); at != 0 || bad != api.OK {
		t.Errorf("as many as may be: %d, error %d", at, bad)
	}
	noTerm(t, e, "great", "great", api.ErrMany)
	f := &growing{[]api.Sexp{word("xor"), word("q")}, map[int]int{}}
	f.put(list(0, 1, f.filler(api.MaxElab-2)))
	if at, bad := e.DefineFun("greater", nil, boolean, f.l, len(f.l)-1); at != 0 || bad != api.OK {
		t.Errorf("%d, error %d", at, bad)
	}
	if i, at, bad := e.Term(tableOf(t, e), []api.Sexp{word("greater")}, 0); i != 0 || at != 0 || bad != api.ErrMany {
		t.Errorf("the first node of a table: %d, %d, error %d", i, at, bad)
	}
	noTerm(t, e, "(not (great))", "(great)", api.ErrMany)
	noTerm(t, e, "(as great nobody)", "great", api.ErrMany)
	ok(t, e.Push(1))
	if at, bad := e.DefineFun("less", nil, boolean, g.l, g.filler(api.MaxElab-2)); at != 0 || bad != api.OK {
		t.Errorf("%d, error %d", at, bad)
	}
	nodes, root := read(t, "(not less)")
	if _, at, bad := e.Term(tableOf(t, e), nodes, root); at != 0 || bad != api.OK {
		t.Errorf("%d, error %d", at, bad)
	}
	noTerm(t, e, "(not (not less))", "less", api.ErrMany)
	noFun(t, e, "six", nil, boolean, "(and less p)", "p", api.ErrMany)
	noFun(t, e, "six", nil, boolean, "(and p less)", "less", api.ErrMany)
	defines(t, e, "again", boolean, "(less)")
	noTerm(t, e, "(not again)", "again", api.ErrMany)
	noTerm(t, e, "(and q nobody again)", "nobody", api.ErrUnbound)
}

// P8.3, P8.4: the same of sorts.
func TestStepsOfSorts(t *testing.T) {
	e := env(t)
	definesSort(t, e, "One", "Int", "a")
	definesSort(t, e, "First", "a", "a", "b")
	g := &growing{nil, map[int]int{}}
	most := g.sortFiller(api.MaxElab)
	if s, at, bad := e.Sort(g.l, most); s.Kind != api.KInt || at != 0 || bad != api.OK {
		t.Errorf("as many as may be: %+v, %d, error %d", s, at, bad)
	}
	if at, bad := e.DefineSort("Great", nil, g.l, most); at != 0 || bad != api.OK {
		t.Errorf("as many as may be: %d, error %d", at, bad)
	}
	noSort(t, e, "Great", "Great", api.ErrMany)
	noSort(t, e, "(Pair Great)", "Great", api.ErrMany)
	more := g.sortFiller(api.MaxElab + 1)
	if s, at, bad := e.Sort(g.l, more); s.Kind != 0 || at != more || bad != api.ErrMany {
		t.Errorf("one more: %+v, %d, error %d; want %d", s, at, bad, more)
	}
	if at, bad := e.DefineSort("Greater", nil, g.l, more); at != more || bad != api.ErrMany {
		t.Errorf("one more: %d, error %d; want %d", at, bad, more)
	}
	pair := g.put(list(g.put(word("Array")), g.sortFiller(api.MaxElab-1), g.put(word("nobody"))))
	if s, at, bad := e.Sort(g.l, pair); s.Kind != 0 || at != pair-1 || bad != api.ErrMany {
		t.Errorf("nobody too many: %+v, %d, error %d", s, at, bad)
	}
	noSort(t, e, "Greater", "Greater", api.ErrUnbound)
}

// P8.4: nests as deep as steps allow.
func TestDeepNests(t *testing.T) {
	e := env(t)
	g := &growing{[]api.Sexp{word("not"), word("p")}, nil}
	for range api.MaxElab - 1 {
		g.put(list(0, len(g.l)-1))
	}
	u := tableOf(t, e)
	if i, at, bad := e.Term(u, g.l, len(g.l)-1); i != api.MaxElab-1 || at != 0 || bad != api.OK || u.Len() != api.MaxElab {
		t.Errorf("%d, %d, error %d", i, at, bad)
	}
	stepsOf(t, e, g, g.put(list(0, len(g.l)-1)), 1, api.ErrMany)
	g = &growing{[]api.Sexp{word("let"), word("x"), word("k"), list(2, 1), list(3), word("p")}, nil}
	for range api.MaxElab/2 - 1 {
		g.put(list(0, 4, len(g.l)-1))
	}
	stepsOf(t, e, g, len(g.l)-1, 0, api.OK)
	stepsOf(t, e, g, g.put(list(0, 4, len(g.l)-1)), 5, api.ErrMany)
	g = &growing{[]api.Sexp{word("Array"), word("Int")}, nil}
	for range api.MaxElab - 1 {
		g.put(list(0, len(g.l)-1))
	}
	if _, at, bad := e.Sort(g.l, len(g.l)-1); at != 2 || bad != api.ErrArgs {
		t.Errorf("%d, error %d", at, bad)
	}
}

// A call's steps begin anew, whatever the calls ahead of it took.
func TestStepsOfEachCall(t *testing.T) {
	e := env(t)
	g := &growing{nil, map[int]int{}}
	most := g.filler(api.MaxElab)
	u := tableOf(t, e)
	for range 3 {
		if _, at, bad := e.Term(u, g.l, most); at != 0 || bad != api.OK {
			t.Fatalf("%d, error %d", at, bad)
		}
	}
}
