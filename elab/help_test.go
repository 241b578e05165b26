package elab_test

import (
	"reflect"
	"slices"
	"strings"
	"testing"

	"tribunal/api"
	"tribunal/elab"
	"tribunal/lexis"
	"tribunal/sexp"
	"tribunal/term"
)

var (
	boolean = api.Sort{Kind: api.KBool}
	integer = api.Sort{Kind: api.KInt}
)

func data(name string) api.Sort { return api.Sort{Kind: api.KData, Name: name} }

func user(name string) api.Sort { return api.Sort{Kind: api.KUser, Name: name} }

func wide(n int) api.Sort { return api.Sort{Kind: api.KBits, Width: n} }

func array(from, to api.Sort) api.Sort { return api.Sort{Kind: api.KArray, Args: []api.Sort{from, to}} }

func fun(name string, ret api.Sort, args ...api.Sort) api.Fun {
	return api.Fun{Name: name, Args: args, Ret: ret}
}

func sel(name string, s api.Sort) api.Sel { return api.Sel{Name: name, Sort: s} }

func con(name string, sels ...api.Sel) api.Con { return api.Con{Name: name, Sels: sels} }

func lists() api.Datatype {
	return api.Datatype{Name: "List", Cons: []api.Con{con("nil"), con("cons", sel("head", integer), sel("tail", data("List")))}}
}

func colors() api.Datatype {
	return api.Datatype{Name: "Color", Cons: []api.Con{con("red"), con("light green")}}
}

// some is a signature with constants of many sorts, and functions and datatypes.
func some() api.Sig {
	return api.Sig{
		Users: []string{"U", "my sort"},
		Datas: []api.Datatype{lists(), colors()},
		Funs: []api.Fun{
			fun("x", integer), fun("y", integer), fun("z", integer), fun("p", boolean), fun("q", boolean), fun("r", boolean),
			fun("u", user("U")), fun("m", user("my sort")), fun("l", data("List")), fun("c", data("Color")),
			fun("b", wide(4)), fun("d", wide(4)), fun("b8", wide(8)), fun("b4096", wide(4096)),
			fun("a", array(integer, integer)), fun("ab", array(wide(4), boolean)),
			fun("f", integer, integer), fun("g", boolean, integer, data("List"), user("U")), fun("is so", boolean, user("my sort")), fun("let", integer), fun("as", integer, integer),
		},
	}
}

// some's environment, with definitions: double, both (two parameters), five (none), Pair, Row (two parameters), Ints (none).
func env(t *testing.T) *elab.Env {
	t.Helper()
	e := declared(t, some())
	defines(t, e, "double", integer, "(+ n n)", sel("n", integer))
	defines(t, e, "both", boolean, "(and (= k x) o)", sel("k", integer), sel("o", boolean))
	defines(t, e, "five", integer, "5")
	definesSort(t, e, "Pair", "(Array a a)", "a")
	definesSort(t, e, "Row", "(Array Int (Array from to))", "from", "to")
	definesSort(t, e, "Ints", "(Array Int Int)")
	return e
}

// declared is an environment with a signature, declared one by one.
func declared(t *testing.T, g api.Sig) *elab.Env {
	t.Helper()
	e := elab.New()
	for _, name := range g.Users {
		ok(t, e.DeclareSort(name))
	}
	ok(t, e.DeclareDatas(g.Datas))
	for _, f := range g.Funs {
		ok(t, e.DeclareFun(f))
	}
	return e
}

func ok(t *testing.T, e api.Errno) {
	t.Helper()
	if e != api.OK {
		t.Fatalf("error %d", e)
	}
}

func fails(t *testing.T, what string, got, want api.Errno) {
	t.Helper()
	if got != want {
		t.Errorf("%s: error %d; want %d", what, got, want)
	}
}

func defines(t *testing.T, e *elab.Env, name string, ret api.Sort, body string, params ...api.Sel) {
	t.Helper()
	nodes, root := read(t, body)
	if at, bad := e.DefineFun(name, params, ret, nodes, root); at != 0 || bad != api.OK {
		t.Fatalf("DefineFun %s %s: error %d at %q", name, body, bad, textOf(nodes, at))
	}
}

func definesSort(t *testing.T, e *elab.Env, name, body string, params ...string) {
	t.Helper()
	nodes, root := read(t, body)
	if at, bad := e.DefineSort(name, params, nodes, root); at != 0 || bad != api.OK {
		t.Fatalf("DefineSort %s %s: error %d at %q", name, body, bad, textOf(nodes, at))
	}
}

// read is the last s-expression of a text. Ahead of it stands another one, so that no number of a node is its place in the text.
func read(t *testing.T, s string) ([]api.Sexp, int) {
	t.Helper()
	l, _, _, e := lexis.Scan("(|ahead of it|) " + s)
	nodes, roots, _, _, f := sexp.Parse(l)
	if e != api.OK || f != api.OK || len(roots) != 2 {
		t.Fatalf("%q: errors %d, %d, %d roots", s, e, f, len(roots))
	}
	return nodes, roots[1]
}

func textOf(l []api.Sexp, n int) string {
	s, e := sexp.Text(l, n)
	if e != api.OK {
		return "no node"
	}
	return s
}

func tableOf(t *testing.T, e *elab.Env) *term.Table {
	t.Helper()
	u, bad := term.New(e.Sig())
	ok(t, bad)
	return u
}

// mean is the text of what an s-expression is as a term, in a new table.
func mean(t *testing.T, e *elab.Env, s string) string {
	t.Helper()
	u := tableOf(t, e)
	nodes, root := read(t, s)
	i, at, bad := e.Term(u, nodes, root)
	if at != 0 || bad != api.OK {
		t.Errorf("%s: %d, error %d at %d, %q", brief(s), i, bad, at, brief(textOf(nodes, at)))
		return ""
	}
	text, bad := u.Text(i)
	ok(t, bad)
	return text
}

// isTerm asks for the text of the term that a text means.
func isTerm(t *testing.T, e *elab.Env, s, want string) {
	t.Helper()
	if got := mean(t, e, s); got != want {
		t.Errorf("%s: %s; want %s", brief(s), brief(got), brief(want))
	}
}

// fault is an error as texts tell it: of the node, which stands as often ahead of that as nth says.
type fault struct {
	node string
	nth  int
	e    api.Errno
}

// noTerm asks for an error at the only node that is written so.
func noTerm(t *testing.T, e *elab.Env, s, node string, want api.Errno) {
	t.Helper()
	noTermAt(t, e, s, fault{node, 0, want})
}

func noTermAt(t *testing.T, e *elab.Env, s string, want fault) {
	t.Helper()
	nodes, root := read(t, s)
	i, at, bad := e.Term(tableOf(t, e), nodes, root)
	if i != 0 || bad != want.e || at != find(t, nodes, root, want) {
		t.Errorf("%s: %d, error %d at %d, %q; want %+v", brief(s), i, bad, at, brief(textOf(nodes, at)), want)
	}
}

// find is the node that a fault names.
func find(t *testing.T, l []api.Sexp, root int, f fault) int {
	t.Helper()
	var found []int
	for _, n := range order(l, root) {
		if textOf(l, n) == f.node {
			found = append(found, n)
		}
	}
	if len(found) <= f.nth {
		t.Fatalf("%q stands %d times in %q", f.node, len(found), textOf(l, root))
	}
	return found[f.nth]
}

// order is a node and all below it, in the order in which they begin.
func order(l []api.Sexp, n int) []int {
	list := []int{n}
	for _, k := range sexp.Kids(l, n) {
		list = append(list, order(l, k)...)
	}
	return list
}

func isSort(t *testing.T, e *elab.Env, s string, want api.Sort, datas ...string) {
	t.Helper()
	nodes, root := read(t, s)
	got, at, bad := e.SortAmong(datas, nodes, root)
	if !reflect.DeepEqual(got, want) || at != 0 || bad != api.OK {
		t.Errorf("%s: %+v, error %d at %q; want %+v", s, got, bad, textOf(nodes, at), want)
	}
	if len(datas) > 0 {
		return
	}
	if got, at, bad := e.Sort(nodes, root); !reflect.DeepEqual(got, want) || at != 0 || bad != api.OK {
		t.Errorf("%s: %+v, error %d at %q; want %+v", s, got, bad, textOf(nodes, at), want)
	}
}

func noSort(t *testing.T, e *elab.Env, s, node string, want api.Errno, datas ...string) {
	t.Helper()
	noSortAt(t, e, s, fault{node, 0, want}, datas...)
}

func noSortAt(t *testing.T, e *elab.Env, s string, want fault, datas ...string) {
	t.Helper()
	nodes, root := read(t, s)
	got, at, bad := e.SortAmong(datas, nodes, root)
	if len(datas) == 0 {
		got, at, bad = e.Sort(nodes, root)
	}
	if !reflect.DeepEqual(got, api.Sort{}) || bad != want.e || at != find(t, nodes, root, want) {
		t.Errorf("%s: %+v, error %d at %q; want %+v", s, got, bad, textOf(nodes, at), want)
	}
}

// noFun asks DefineFun for an error at a node of the body; without one: 0.
func noFun(t *testing.T, e *elab.Env, name string, params []api.Sel, ret api.Sort, body, node string, want api.Errno) {
	t.Helper()
	nodes, root := read(t, body)
	before := state(t, e)
	place := 0
	if node != "" {
		place = find(t, nodes, root, fault{node: node})
	}
	if at, bad := e.DefineFun(name, params, ret, nodes, root); bad != want || at != place {
		t.Errorf("DefineFun %s %s: error %d at %d, %q; want %d at %q", name, brief(body), bad, at, brief(textOf(nodes, at)), want, node)
	}
	same(t, before, state(t, e))
}

func noSortDefined(t *testing.T, e *elab.Env, name string, params []string, body, node string, want api.Errno) {
	t.Helper()
	nodes, root := read(t, body)
	before := state(t, e)
	place := 0
	if node != "" {
		place = find(t, nodes, root, fault{node: node})
	}
	if at, bad := e.DefineSort(name, params, nodes, root); bad != want || at != place {
		t.Errorf("DefineSort %s %s: error %d at %d, %q; want %d at %q", name, brief(body), bad, at, brief(textOf(nodes, at)), want, node)
	}
	same(t, before, state(t, e))
}

// told is what an environment answers to many questions.
type told struct {
	sig     api.Sig
	depth   int
	answers []string
}

// state asks for words and small applications of all names that these tests give to anything.
func state(t *testing.T, e *elab.Env) told {
	t.Helper()
	s := told{sig: e.Sig(), depth: e.Depth()}
	u := tableOf(t, e)
	for _, name := range allNames() {
		for _, text := range []string{name, "(" + name + " x)", "(" + name + " Int)", "(" + name + " p q)"} {
			nodes, root := read(t, text)
			i, at, bad := e.Term(u, nodes, root)
			written, _ := u.Text(i)
			if bad != api.OK {
				written = "no"
			}
			s.answers = append(s.answers, strings.Join([]string{text, written, textOf(nodes, at), bad.Error()}, " "))
			meant, at, bad := e.Sort(nodes, root)
			s.answers = append(s.answers, strings.Join([]string{text, meant.Name, api.Errno(meant.Kind).Error(), textOf(nodes, at), bad.Error()}, " "))
		}
	}
	return s
}

func allNames() []string {
	list := []string{"U", "V", "|my sort|", "List", "Color", "Tree", "Pair", "Row", "Ints", "Twice", "Bool", "Int", "and",
		"x", "y", "p", "f", "f2", "g", "nil", "cons", "head", "tail", "leaf", "node", "left", "double", "both", "five", "six", "half", "n", "k", "o", "from", "a", "!0", "!1"}
	return list
}

func same(t *testing.T, before, behind told) {
	t.Helper()
	if !reflect.DeepEqual(before.sig, behind.sig) || before.depth != behind.depth {
		t.Errorf("%+v, depth %d; was %+v, depth %d", behind.sig, behind.depth, before.sig, before.depth)
	}
	for i, s := range before.answers {
		if behind.answers[i] != s {
			t.Errorf("%s; was %s", behind.answers[i], s)
		}
	}
}

// brief is a text as it may be told.
func brief(s string) string {
	if len(s) > 300 {
		return s[:150] + " .. " + s[len(s)-150:]
	}
	return s
}

func word(text string) api.Sexp {
	return api.Sexp{Kind: api.SAtom, Token: api.Token{Kind: api.TSymbol, Text: text}}
}

func numeral(text string) api.Sexp {
	return api.Sexp{Kind: api.SAtom, Token: api.Token{Kind: api.TNumeral, Text: text}}
}

func list(kids ...int) api.Sexp {
	return api.Sexp{Kind: api.SList, Token: api.Token{Kind: api.TOpen, Text: "("}, Kids: kids}
}

// dice are numbers that look like any, the same ones each time.
type dice struct{ state uint64 }

func (d *dice) roll() uint64 {
	d.state += 0x9e3779b97f4a7c15
	z := d.state
	z = (z ^ z>>30) * 0xbf58476d1ce4e5b9
	z = (z ^ z>>27) * 0x94d049bb133111eb
	return z ^ z>>31
}

func (d *dice) below(n int) int { return int(d.roll() % uint64(n)) }

func pick[T any](d *dice, list []T) T { return list[d.below(len(list))] }

func times[T any](x T, many int) []T { return slices.Repeat([]T{x}, many) }
