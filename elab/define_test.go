package elab_test

import (
	"slices"
	"strconv"
	"strings"
	"testing"

	"tribunal/api"
	"tribunal/elab"
)

// P8.3, P8.7: what is defined stands for its body.
func TestDefinedFunctions(t *testing.T) {
	e := env(t)
	isTerm(t, e, "(double 3)", "(+ 3 3)")
	isTerm(t, e, "(double (double x))", "(+ (+ x x) (+ x x))")
	isTerm(t, e, "(both five (= x 1))", "(and (= 5 x) (= x 1))")
	isTerm(t, e, "five", "5")
	isTerm(t, e, "(five)", "5")
	isTerm(t, e, "(|double| |five|)", "(+ 5 5)")
	isTerm(t, e, "((as double Int) (as five Int))", "(+ 5 5)")
	noTerm(t, e, "double", "double", api.ErrArgs)
	noTerm(t, e, "(double)", "(double)", api.ErrArgs)
	noTerm(t, e, "(double 1 2)", "(double 1 2)", api.ErrArgs)
	noTerm(t, e, "(double p)", "(double p)", api.ErrSorts)
	noTerm(t, e, "(both p 1)", "(both p 1)", api.ErrSorts)
	noTerm(t, e, "(both 1 2)", "(both 1 2)", api.ErrSorts)
	noTerm(t, e, "(both p 1 2)", "(both p 1 2)", api.ErrArgs)
	noTerm(t, e, "(both p n)", "n", api.ErrUnbound)
	noTerm(t, e, "(five 1)", "(five 1)", api.ErrArgs)
	noTerm(t, e, "((as double Bool) 1)", "((as double Bool) 1)", api.ErrSorts)
	noTerm(t, e, "(as five Bool)", "(as five Bool)", api.ErrSorts)
}

// P8.3: names of parameters hide all others in the body, and are seen nowhere else.
func TestParameters(t *testing.T) {
	e := env(t)
	defines(t, e, "f1", boolean, "(and true (= x 1))", sel("true", boolean), sel("x", integer))
	isTerm(t, e, "(f1 p (+ y 1))", "(and p (= (+ y 1) 1))")
	defines(t, e, "f2", integer, "(+ |let| |not| five (double |and|))", sel("let", integer), sel("not", integer), sel("and", integer))
	isTerm(t, e, "(f2 1 2 3)", "(+ 1 2 5 (+ 3 3))")
	defines(t, e, "f3", boolean, "(let ((x y) (y x)) (< x y z))", sel("x", integer), sel("y", integer))
	isTerm(t, e, "(f3 1 2)", "(and (< 2 1) (< 1 z))")
	isTerm(t, e, "(let ((x 7) (z 8)) (f3 x 2))", "(and (< 2 7) (< 7 z))")
	defines(t, e, "f4", integer, "(+ x y)", sel("y", integer))
	isTerm(t, e, "(let ((x 1)) (f4 x))", "(+ x 1)")
	noFun(t, e, "f5", []api.Sel{sel("f", integer)}, integer, "(f 1)", "f", api.ErrUnbound)
	noTerm(t, e, "(+ (f4 1) n)", "n", api.ErrUnbound)
	noTerm(t, e, "(let ((k 1)) (double n))", "n", api.ErrUnbound)
	defines(t, e, "f6", array(integer, array(boolean, integer)), "((as const (Row Bool Int)) ((as const (Array Bool Int)) n))", sel("n", integer))
	isTerm(t, e, "(f6 x)", "((as const (Array Int (Array Bool Int))) ((as const (Array Bool Int)) x))")
	ok(t, e.DeclareFun(fun("!0", boolean)))
	defines(t, e, "f7", boolean, "(and !0 (= n !1))", sel("!1", integer), sel("n", integer))
	isTerm(t, e, "(f7 1 2)", "(and !0 (= 2 1))")
	noFun(t, e, "f8", []api.Sel{sel("n", boolean)}, boolean, "!2", "!2", api.ErrUnbound)
	noFun(t, e, "f8", []api.Sel{sel("n", boolean)}, boolean, "((_ is !2) n)", "((_ is !2) n)", api.ErrSymbol)
}

// P8.3: one definition may lean on others, however often.
func TestDefinitionsOfDefinitions(t *testing.T) {
	e := env(t)
	last, want := "f", "(f x)"
	for i := range 50 {
		name := "g" + strconv.Itoa(i)
		defines(t, e, name, integer, "("+last+" (f n))", sel("n", integer))
		last, want = name, "(f "+want+")"
	}
	isTerm(t, e, "("+last+" x)", want)
	definesSort(t, e, "Two", "(Pair (Pair b))", "b")
	definesSort(t, e, "Four", "(Two (Two c))", "c")
	four := user("U")
	for range 4 {
		four = array(four, four)
	}
	isSort(t, e, "(Four U)", four)
}

// P8.3: ErrName, ErrThere, ErrTwice, ErrMany, in this order, ahead of what is wrong with sorts and bodies.
func TestNamesOfDefinitions(t *testing.T) {
	e := env(t)
	refused := func(name string, params []string, want api.Errno) {
		t.Helper()
		sels := []api.Sel{}
		for _, p := range params {
			sels = append(sels, sel(p, user("nobody's")))
		}
		noFun(t, e, name, sels, user("nobody's"), "(+ nobody)", "", want)
		switch name {
		case "double":
			name = "Pair"
		case "and":
			name = "Array"
		}
		noSortDefined(t, e, name, params, "(nobody Int)", "", want)
	}
	many := []string{}
	for i := range api.MaxArgs + 1 {
		many = append(many, "p"+strconv.Itoa(i))
	}
	for _, name := range []string{"", "@n", ".n", "a|b", `a\b`, "a\tb", strings.Repeat("n", api.MaxName+1)} {
		refused(name, nil, api.ErrName)
		refused("new", []string{"a", name}, api.ErrName)
		refused("double", append([]string{name, "a", "a"}, many...), api.ErrName)
	}
	refused("double", nil, api.ErrThere)
	refused("and", append([]string{"a", "a"}, many...), api.ErrThere)
	refused("new", []string{"a", "b", "a"}, api.ErrTwice)
	refused("new", append([]string{"p64"}, many...), api.ErrTwice)
	refused("new", append(slices.Clone(many), many...), api.ErrTwice)
	refused("new", many, api.ErrMany)
}

// P8.3: as many parameters as there may be.
func TestManyParameters(t *testing.T) {
	e := env(t)
	var words []string
	var sels []api.Sel
	for i := range api.MaxArgs {
		words = append(words, "p"+strconv.Itoa(i))
		sels = append(sels, sel(words[i], integer))
	}
	defines(t, e, "sum", integer, "(+ "+strings.Join(words, " ")+")", sels...)
	args := strings.TrimSpace(strings.Repeat("1 x ", api.MaxArgs/2))
	isTerm(t, e, "(sum "+args+")", "(+ "+args+")")
	noTerm(t, e, "(sum "+args+" 1)", "(sum "+args+" 1)", api.ErrArgs)
	definesSort(t, e, "Last", "(Array p0 p63)", words...)
	sorts := "Bool " + strings.Repeat("Int ", api.MaxArgs-2) + "U"
	isSort(t, e, "(Last "+sorts+")", array(boolean, user("U")))
	noSort(t, e, "(Last "+sorts+" U)", "(Last "+sorts+" U)", api.ErrArgs)
}

// P8.3: sorts of parameters, in order, then ret's, ahead of what is wrong with the body.
func TestSortsOfDefinitions(t *testing.T) {
	e := env(t)
	loop := []api.Sort{integer, integer}
	loop[0] = api.Sort{Kind: api.KArray, Args: loop}
	deep := integer
	for range api.MaxSortDepth - 1 {
		deep = array(integer, deep)
	}
	for _, c := range []struct {
		s    api.Sort
		want api.Errno
	}{
		{api.Sort{}, api.ErrSort}, {wide(0), api.ErrSort}, {wide(api.MaxWidth + 1), api.ErrSort}, {user("V"), api.ErrSort}, {data("U"), api.ErrSort}, {user("Pair"), api.ErrSort},
		{array(integer, user("V")), api.ErrSort}, {loop[0], api.ErrMany}, {array(integer, deep), api.ErrMany},
	} {
		noFun(t, e, "new", []api.Sel{sel("n", c.s)}, integer, "nobody", "", c.want)
		noFun(t, e, "new", []api.Sel{sel("k", integer), sel("n", c.s)}, integer, "5", "", c.want)
		noFun(t, e, "new", nil, c.s, "nobody", "", c.want)
	}
	noFun(t, e, "new", []api.Sel{sel("n", loop[0]), sel("k", wide(0))}, integer, "5", "", api.ErrMany)
	noFun(t, e, "new", []api.Sel{sel("n", wide(0)), sel("k", loop[0])}, integer, "5", "", api.ErrSort)
	noFun(t, e, "new", []api.Sel{sel("n", loop[0])}, wide(0), "5", "", api.ErrMany)
	noFun(t, e, "new", []api.Sel{sel("n", wide(0))}, loop[0], "5", "", api.ErrSort)
	defines(t, e, "same", deep, "n", sel("n", deep))
	ok(t, e.DeclareFun(fun("far", deep)))
	isTerm(t, e, "(same far)", "far")
	noTerm(t, e, "(same x)", "(same x)", api.ErrSorts)
}

// P8.3: faults of bodies are told where they are; a body of another sort than ret at the root.
func TestFaultsOfBodies(t *testing.T) {
	e := env(t)
	n := []api.Sel{sel("n", integer)}
	noFun(t, e, "new", n, integer, "(+ n nobody)", "nobody", api.ErrUnbound)
	noFun(t, e, "new", n, integer, "(new n)", "new", api.ErrUnbound)
	noFun(t, e, "new", n, integer, "(+ 1 (* n n))", "(* n n)", api.ErrLinear)
	noFun(t, e, "new", n, integer, "(div 7 n)", "(div 7 n)", api.ErrLinear)
	noFun(t, e, "new", n, integer, "(double (= n n))", "(double (= n n))", api.ErrSorts)
	noFun(t, e, "new", n, integer, "(= n n)", "(= n n)", api.ErrSorts)
	noFun(t, e, "new", n, boolean, "(+ n 1)", "(+ n 1)", api.ErrSorts)
	noFun(t, e, "new", nil, array(integer, boolean), "a", "a", api.ErrSorts)
	noFun(t, e, "new", nil, integer, "1.5", "1.5", api.ErrForm)
	noFun(t, e, "new", n, integer, "(as n Bool)", "(as n Bool)", api.ErrSorts)
	defines(t, e, "half", integer, "(div (* n 3) (- 2))", n...)
	isTerm(t, e, "(half x)", "(div (* x 3) (- 2))")
	isTerm(t, e, "(half 4)", "(div (* 4 3) (- 2))")
	for _, c := range []struct {
		body, node string
		want       api.Errno
	}{
		{"nobody", "nobody", api.ErrUnbound}, {"(Array a nobody)", "nobody", api.ErrUnbound}, {"(New a)", "(New a)", api.ErrUnbound}, {"(Array a)", "(Array a)", api.ErrArgs}, {"(a Int)", "(a Int)", api.ErrArgs},
		{"(Pair a b)", "(Pair a b)", api.ErrArgs}, {"5", "5", api.ErrForm}, {"(Array Int (_ BitVec 0))", "(_ BitVec 0)", api.ErrSort},
	} {
		noSortDefined(t, e, "New", []string{"a", "b"}, c.body, c.node, c.want)
	}
}

// P8.3: parameters of sorts hide all other names; a sort with them has no more parts and is no deeper than any.
func TestParametersOfSorts(t *testing.T) {
	e := env(t)
	definesSort(t, e, "Odd", "(Array Int (Array U (_ BitVec 3)))", "Int", "U", "BitVec")
	isSort(t, e, "(Odd Bool List Color)", array(boolean, array(data("List"), wide(3))))
	noSortDefined(t, e, "New", []string{"Array"}, "(Array Int Int)", "(Array Int Int)", api.ErrArgs)
	definesSort(t, e, "First", "Array", "Array", "unused")
	isSort(t, e, "(First (Array Int U) Bool)", array(integer, user("U")))
	isSort(t, e, "(First (_ BitVec 9) Bool)", wide(9))
	pairs := func(n int, of string) string { return strings.Repeat("(Pair ", n) + of + strings.Repeat(")", n) }
	definesSort(t, e, "Many", pairs(7, "a"), "a") // 255 parts
	noSortDefined(t, e, "New", []string{"a"}, pairs(8, "a"), pairs(8, "a"), api.ErrMany)
	noSortDefined(t, e, "New", []string{"a"}, "(Array Int "+pairs(8, "a")+")", pairs(8, "a"), api.ErrMany)
	definesSort(t, e, "More", "(Array a "+strings.Repeat("(Array Int ", 14)+"a"+strings.Repeat(")", 15), "a")
	noSort(t, e, "(More (Array U U))", "(More (Array U U))", api.ErrMany)
	noSort(t, e, "(Array Int (More U))", "(Array Int (More U))", api.ErrMany)
	noSort(t, e, "(First Int (Pair (More (Pair U))))", "(More (Pair U))", api.ErrMany)
	definesSort(t, e, "Lost", "(First Int (More a))", "a")
	isSort(t, e, "(Lost U)", integer)
	noSort(t, e, "(Array U (Lost (Pair U)))", "(Lost (Pair U))", api.ErrMany)
}

// P8.3: tables that are not sound, or have no such root.
func TestUnsoundBodies(t *testing.T) {
	e := env(t)
	before := state(t, e)
	for _, c := range unsound() {
		if at, bad := e.DefineFun("", []api.Sel{{}}, api.Sort{}, c.l, c.root); at != c.root || bad != api.ErrShape {
			t.Errorf("DefineFun of %d in %+v: %d, error %d", c.root, c.l, at, bad)
		}
		if at, bad := e.DefineSort("Int", []string{"", ""}, c.l, c.root); at != c.root || bad != api.ErrShape {
			t.Errorf("DefineSort of %d in %+v: %d, error %d", c.root, c.l, at, bad)
		}
	}
	same(t, before, state(t, e))
	far := []api.Sexp{word("x"), list(77), {Kind: 7}, list(0, 0), list(0, 2)}
	if at, bad := e.DefineFun("new", nil, integer, far, 0); at != 0 || bad != api.OK {
		t.Errorf("a sound root in a table that is not: %d, error %d", at, bad)
	}
	isTerm(t, e, "new", "x")
}

// What stands in an atom's Kids, or is no kid of anything, plays no part; nor does a list's Token.
func TestOddTables(t *testing.T) {
	e := env(t)
	l := []api.Sexp{word("+"), word("x"), {Kind: api.SList}, list(), word("n"), {Kind: api.SList, Kids: []int{0, 4, 1, 4}}}
	l[4].Kids, l[1].Kids = []int{77, -1}, []int{1}
	if at, bad := e.DefineFun("new", []api.Sel{sel("n", integer)}, integer, l, 5); at != 0 || bad != api.OK {
		t.Fatalf("%d, error %d", at, bad)
	}
	isTerm(t, e, "(new 3)", "(+ 3 x 3)")
	u := tableOf(t, e)
	l[4] = word("y")
	l[4].Kids = []int{77, -1}
	if i, at, bad := e.Term(u, l, 5); i != 2 || at != 0 || bad != api.OK {
		t.Errorf("%d, %d, error %d", i, at, bad)
	}
	l[5].Token, l[3].Token = word("z").Token, word("Int").Token
	if i, at, bad := e.Term(u, l, 5); i != 2 || at != 0 || bad != api.OK {
		t.Errorf("%d, %d, error %d", i, at, bad)
	}
	if s, at, bad := e.Sort(l, 3); s.Kind != 0 || at != 3 || bad != api.ErrForm {
		t.Errorf("%+v, %d, error %d", s, at, bad)
	}
	odd := []api.Sexp{word("Int"), list(0), word("x"), list(1, 2)}
	odd[1].Token = word("f").Token
	if i, at, bad := e.Term(u, odd, 3); i != 0 || at != 1 || bad != api.ErrForm {
		t.Errorf("%d, %d, error %d", i, at, bad)
	}
	if i, at, bad := e.Term(u, l, 3); i != 0 || at != 3 || bad != api.ErrForm {
		t.Errorf("an empty list: %d, %d, error %d", i, at, bad)
	}
}

type badTable struct {
	l    []api.Sexp
	root int
}

func unsound() []badTable {
	good := []api.Sexp{word("not"), word("p"), list(0, 1)}
	tables := []badTable{{nil, 0}, {nil, -1}, {good, 3}, {good, -1}, {good, 1 << 40}, {good, -1 << 63}, {good, 1<<63 - 1}}
	for _, bad := range []api.Sexp{{}, {Kind: 3}, {Kind: api.SAtom}, word("a b"), word("1"), numeral("01"), list(-1), list(1), list(2), {Kind: api.SAtom, Token: api.Token{Kind: api.TOpen, Text: "("}}} {
		tables = append(tables, badTable{[]api.Sexp{good[0], bad}, 1}, badTable{[]api.Sexp{good[0], bad, list(0, 0), list(0, 1), list(0, 3)}, 4})
	}
	return tables
}

// The text of the table that is handed in may turn behind the call.
func TestBodiesAreKept(t *testing.T) {
	e := elab.New()
	nodes, root := read(t, "(and n (not n))")
	params, words := []api.Sel{sel("n", boolean)}, []string{"a", "b"}
	if _, bad := e.DefineFun("new", params, boolean, nodes, root); bad != api.OK {
		t.Fatal(bad)
	}
	turned, top := read(t, "(Array b (Array a Bool))")
	if _, bad := e.DefineSort("New", words, turned, top); bad != api.OK {
		t.Fatal(bad)
	}
	params[0], words[0], words[1] = sel("k", integer), "x", "y"
	for _, l := range [][]api.Sexp{nodes, turned} {
		for i := range l {
			for j := range l[i].Kids {
				l[i].Kids[j] = 77
			}
			l[i] = word("turned")
		}
	}
	isTerm(t, e, "(new true)", "(and true (not true))")
	isSort(t, e, "(New Int Bool)", array(boolean, array(integer, boolean)))
}
