package elab_test

import (
	"reflect"
	"slices"
	"testing"

	"tribunal/api"
	"tribunal/elab"
	"tribunal/term"
)

// An environment that is nil, or that New did not make: ErrNil, else zero values; nothing changes.
func TestNoEnvironment(t *testing.T) {
	good := env(t)
	before := state(t, good)
	copied := *good
	nodes, _ := read(t, "(+ nobody 1)")
	sorted, top := read(t, "(Array Int nobody)")
	u := tableOf(t, good)
	for what, e := range map[string]*elab.Env{"nil": nil, "a bare one": {}, "a copy": &copied} {
		for range 2 {
			if g := e.Sig(); !reflect.DeepEqual(g, api.Sig{}) || e.Depth() != 0 {
				t.Errorf("%s: %+v, depth %d", what, g, e.Depth())
			}
			for _, n := range []int{-1, 0, 1, api.MaxLevels, 1<<63 - 1} {
				fails(t, what+": Push", e.Push(n), api.ErrNil)
				fails(t, what+": Pop", e.Pop(n), api.ErrNil)
			}
			for _, name := range []string{"", "V", "U", "Int"} {
				fails(t, what+": DeclareSort", e.DeclareSort(name), api.ErrNil)
				fails(t, what+": DeclareFun", e.DeclareFun(fun(name, integer)), api.ErrNil)
				fails(t, what+": DeclareDatas", e.DeclareDatas([]api.Datatype{{Name: name}}), api.ErrNil)
				for _, root := range []int{top, -1, 77} {
					at, bad := e.DefineSort(name, []string{"a", "a"}, sorted, root)
					at2, bad2 := e.DefineFun(name, nil, integer, nodes, root)
					s, at3, bad3 := e.Sort(sorted, root)
					s2, at4, bad4 := e.SortAmong([]string{"nobody"}, sorted, root)
					i, at5, bad5 := e.Term(u, nodes, root)
					i2, at6, bad6 := e.Term(nil, nodes, root)
					if at != 0 || at2 != 0 || s.Kind != 0 || at3 != 0 || s2.Kind != 0 || at4 != 0 || i != 0 || at5 != 0 || i2 != 0 || at6 != 0 || !slices.Equal([]api.Errno{bad, bad2, bad3, bad4, bad5, bad6}, times(api.ErrNil, 6)) {
						t.Errorf("%s: %d, error %d; %d, error %d; %+v, %d, error %d; %+v, %d, error %d; %d, %d, error %d; %d, %d, error %d", what, at, bad, at2, bad2, s, at3, bad3, s2, at4, bad4, i, at5, bad5, i2, at6, bad6)
					}
				}
			}
		}
	}
	if u.Len() != 0 {
		t.Error("terms were made")
	}
	same(t, before, state(t, good))
	ok(t, good.DeclareSort("V"))
}

// spoilSort turns all of a sort, spare room too.
func spoilSort(s *api.Sort) {
	for i := range s.Args[:cap(s.Args)] {
		spoilSort(&s.Args[:cap(s.Args)][i])
	}
	*s = user("turned")
}

func spoilSig(g api.Sig) {
	for i := range g.Users[:cap(g.Users)] {
		g.Users[:cap(g.Users)][i] = "turned"
	}
	for i := range g.Datas[:cap(g.Datas)] {
		spoilCons(g.Datas[:cap(g.Datas)][i].Cons)
		g.Datas[:cap(g.Datas)][i] = api.Datatype{Name: "turned"}
	}
	for i := range g.Funs[:cap(g.Funs)] {
		spoilFun(&g.Funs[:cap(g.Funs)][i])
	}
}

func spoilCons(l []api.Con) {
	l = l[:cap(l)]
	for i := range l {
		sels := l[i].Sels[:cap(l[i].Sels)]
		for j := range sels {
			spoilSort(&sels[j].Sort)
			sels[j] = sel("turned", boolean)
		}
		l[i] = con("turned")
	}
}

func spoilFun(f *api.Fun) {
	for i := range f.Args[:cap(f.Args)] {
		spoilSort(&f.Args[:cap(f.Args)][i])
	}
	spoilSort(&f.Ret)
	f.Name = "turned"
}

// What is answered is new memory: turning it turns neither the environment nor another answer.
func TestAnswersAreNew(t *testing.T) {
	e := env(t)
	ok(t, e.DeclareFun(fun("far", array(integer, array(boolean, integer)), array(integer, boolean), array(user("U"), boolean))))
	before := state(t, e)
	g, h := e.Sig(), e.Sig()
	spoilSig(g)
	if !reflect.DeepEqual(h, e.Sig()) {
		t.Error("two signatures share memory")
	}
	same(t, before, state(t, e))
	for _, text := range []string{"Ints", "(Pair (Array Int U))", "(Row Ints (Pair (Pair U)))"} {
		nodes, root := read(t, text)
		s, _, _ := e.Sort(nodes, root)
		want, _, _ := e.Sort(nodes, root)
		spoilSort(&s.Args[0])
		if !reflect.DeepEqual(s.Args[1], want.Args[1]) {
			t.Errorf("%s: its parts share memory", text)
		}
		spoilSort(&s)
		isSort(t, e, text, want)
	}
}

// What is handed in is neither changed nor kept, its spare room included.
func TestNothingIsKeptOrChanged(t *testing.T) {
	e := elab.New()
	roomy := func() ([]api.Sort, []api.Sort) {
		l := append(make([]api.Sort, 0, 5), integer, array(integer, boolean))
		return l, slices.Clone(l[:5])
	}
	args, was := roomy()
	f := fun("f", array(boolean, integer), args...)
	f.Args = args
	ok(t, e.DeclareFun(f))
	if !reflect.DeepEqual(args[:5], was) {
		t.Errorf("%+v; was %+v", args[:5], was)
	}
	spoilFun(&f)
	sels := append(make([]api.Sel, 0, 4), sel("first", array(integer, integer)), sel("rest", data("D")))
	cons := append(make([]api.Con, 0, 4), con("none"), api.Con{Name: "some", Sels: sels})
	datas := append(make([]api.Datatype, 0, 4), api.Datatype{Name: "D", Cons: cons})
	ok(t, e.DeclareDatas(datas))
	if !reflect.DeepEqual(datas[:4], []api.Datatype{{Name: "D", Cons: cons}, {}, {}, {}}) || !reflect.DeepEqual(cons[:4], []api.Con{con("none"), {Name: "some", Sels: sels}, {}, {}}) || !reflect.DeepEqual(sels[:4], []api.Sel{sel("first", array(integer, integer)), sel("rest", data("D")), {}, {}}) {
		t.Errorf("%+v, %+v, %+v", datas[:4], cons[:4], sels[:4])
	}
	spoilCons(cons)
	params := append(make([]api.Sel, 0, 4), sel("n", array(integer, boolean)))
	ret := array(integer, boolean)
	nodes, root := read(t, "(store n 1 (select n 2))")
	if at, bad := e.DefineFun("six", params, ret, nodes, root); at != 0 || bad != api.OK {
		t.Fatalf("%d, error %d", at, bad)
	}
	if !reflect.DeepEqual(params[:4], []api.Sel{sel("n", array(integer, boolean)), {}, {}, {}}) || !reflect.DeepEqual(ret, array(integer, boolean)) {
		t.Errorf("%+v, %+v", params[:4], ret)
	}
	spoilSort(&params[0].Sort)
	spoilSort(&ret)
	isTerm(t, e, "(six ((as const (Array Int Bool)) true))", "(store ((as const (Array Int Bool)) true) 1 (select ((as const (Array Int Bool)) true) 2))")
	want := api.Sig{
		Datas: []api.Datatype{{Name: "D", Cons: []api.Con{con("none"), con("some", sel("first", array(integer, integer)), sel("rest", data("D")))}}},
		Funs:  []api.Fun{fun("f", array(boolean, integer), integer, array(integer, boolean))},
	}
	if got := e.Sig(); !reflect.DeepEqual(got, want) {
		t.Errorf("%+v; want %+v", got, want)
	}
}

// roomy is a table with spare room, all lists of it too, and a copy of all that.
func roomy(l []api.Sexp) ([]api.Sexp, []api.Sexp) {
	l = append(make([]api.Sexp, 0, len(l)+3), l...)
	for i := range l {
		l[i].Kids = append(make([]int, 0, len(l[i].Kids)+3), l[i].Kids...)
	}
	was := slices.Clone(l[:cap(l)])
	for i := range was {
		was[i].Kids = slices.Clone(was[i].Kids[:cap(was[i].Kids)])
	}
	return l, was
}

// No table of s-expressions is changed, nor a list of names; the same call answers the same again.
func TestTablesAreNotChanged(t *testing.T) {
	e := env(t)
	for _, s := range []string{"(let ((k (- x y z)) (n (double 3))) (< k n five))", "(Row (Pair Tree) (_ BitVec 3))", "(=> p q (= x y z 1) ((_ is cons) (as nil List)))", "(+ x nobody)", "(Array Int Nobody)", "((_ extract 3 0) b8)"} {
		nodes, root := read(t, s)
		l, was := roomy(nodes)
		datas := append(make([]string, 0, 4), "Tree", "Bush")
		words := append(make([]string, 0, 4), "Tree", "a")
		u := tableOf(t, e)
		ok(t, e.Push(1))
		for range 2 {
			i, at, bad := e.Term(u, l, root)
			s, at2, bad2 := e.SortAmong(datas, l, root)
			for range 2 {
				if i2, at3, bad3 := e.Term(u, l, root); i2 != i || at3 != at || bad3 != bad {
					t.Errorf("%d, %d, error %d; was %d, %d, error %d", i2, at3, bad3, i, at, bad)
				}
				if s2, at3, bad3 := e.SortAmong(datas, l, root); !reflect.DeepEqual(s2, s) || at3 != at2 || bad3 != bad2 {
					t.Errorf("%+v, %d, error %d; was %+v, %d, error %d", s2, at3, bad3, s, at2, bad2)
				}
			}
			e.Sort(l, root)
			e.DefineSort("New", words, l, root)
			e.DefineFun("new", []api.Sel{sel("k", integer)}, boolean, l, root)
		}
		ok(t, e.Pop(1))
		for i, n := range l[:cap(l)] {
			n.Kids = n.Kids[:cap(n.Kids)]
			if n.Kind != was[i].Kind || n.Token != was[i].Token || !slices.Equal(n.Kids, was[i].Kids) {
				t.Errorf("%s: node %d: %+v; was %+v", s, i, n, was[i])
			}
		}
		if !slices.Equal(datas[:4], []string{"Tree", "Bush", "", ""}) || !slices.Equal(words[:4], []string{"Tree", "a", "", ""}) {
			t.Errorf("%q, %q", datas[:4], words[:4])
		}
	}
}

// Two environments know nothing of one another, but for a table over what both have.
func TestTwoEnvironments(t *testing.T) {
	d, e := elab.New(), elab.New()
	ok(t, d.DeclareSort("U"))
	ok(t, d.Push(3))
	ok(t, d.DeclareFun(fun("x", integer)))
	defines(t, d, "six", integer, "(+ x 5)")
	noSort(t, e, "U", "U", api.ErrUnbound)
	noTerm(t, e, "x", "x", api.ErrUnbound)
	if e.Depth() != 0 || len(e.Sig().Users) != 0 {
		t.Errorf("depth %d, %+v", e.Depth(), e.Sig())
	}
	ok(t, e.DeclareFun(fun("x", integer)))
	ok(t, e.DeclareSort("U"))
	u := tableOf(t, d)
	nodes, root := read(t, "(- x 1)")
	i, _, _ := d.Term(u, nodes, root)
	j, at, bad := e.Term(u, nodes, root)
	if i != 2 || j != 2 || at != 0 || bad != api.OK {
		t.Errorf("%d; %d, %d, error %d", i, j, at, bad)
	}
	noTerm(t, e, "six", "six", api.ErrUnbound)
}

// No call panics, whatever it is given.
func TestAnythingGoes(t *testing.T) {
	d := dice{83}
	numbers := []int{-1 << 63, -2, -1, 0, 1, 2, 3, 4, 5, 6, 7, 1 << 32, 1<<63 - 1}
	words := append(predefinedFuns(), "let", "!", "as", "_", "Int", "Bool", "BitVec", "Array", "x", "p", "f", "k", "cons", "l", "Pair", "double", "bv5", "bv", "", "a b", "\x00")
	loop := []api.Sort{integer, integer}
	loop[1] = api.Sort{Kind: api.KArray, Args: loop}
	sorts := []api.Sort{{}, integer, boolean, loop[1], user("U"), data("List"), {Kind: 77}, {Kind: -1, Width: -5}, {Kind: api.KArray}, wide(1 << 40)}
	e := env(t)
	for range 4000 {
		l := make([]api.Sexp, d.below(12))
		for i := range l {
			kind := api.TokenKind(pick(&d, []int{0, 1, 2, 3, 4, 5, 6, 7, 8, 8, 8, 8, 8, 9, 77}))
			l[i] = api.Sexp{Kind: api.SexpKind(pick(&d, []int{0, 1, 1, 1, 2, 2, 2, 2, 2, 3})), Token: api.Token{Kind: kind, Text: pick(&d, words), Quoted: d.below(9) == 0}}
			if kind == api.TNumeral || d.below(9) == 0 {
				l[i].Token.Text = pick(&d, []string{"0", "1", "4", "1000000001", "07", "x"})
			}
			for range d.below(5) {
				l[i].Kids = append(l[i].Kids, pick(&d, []int{d.below(i + 1), d.below(i + 1), d.below(i + 1), pick(&d, numbers)}))
			}
		}
		root := pick(&d, []int{len(l) - 1, len(l) - 2, pick(&d, numbers)})
		u := pick(&d, []*term.Table{nil, {}, tableOf(t, e), tableOf(t, e)})
		i, at, bad := e.Term(u, l, root)
		if bad != api.OK && (i != 0 || at != root && (at < 0 || at >= max(1, len(l)))) || bad == api.OK && at != 0 {
			t.Errorf("Term of %d in %+v: %d, error %d at %d", root, l, i, bad, at)
		}
		s, at, bad := e.SortAmong([]string{pick(&d, words), pick(&d, words)}, l, root)
		if bad != api.OK && (s.Kind != 0 || at != root && (at < 0 || at >= max(1, len(l)))) || bad == api.OK && (at != 0 || s.Kind == 0) {
			t.Errorf("SortAmong of %d in %+v: %+v, error %d at %d", root, l, s, bad, at)
		}
		e.Sort(l, root)
		ok(t, e.Push(1))
		e.DefineSort(pick(&d, words), []string{pick(&d, words), pick(&d, words)}[:d.below(3)], l, root)
		e.DefineFun(pick(&d, words), []api.Sel{sel(pick(&d, words), pick(&d, sorts)), sel(pick(&d, words), pick(&d, sorts))}[:d.below(3)], pick(&d, sorts), l, root)
		e.DeclareFun(fun(pick(&d, words), pick(&d, sorts), pick(&d, sorts)))
		e.DeclareSort(pick(&d, words))
		e.DeclareDatas([]api.Datatype{{Name: pick(&d, words), Cons: []api.Con{con(pick(&d, words)), con(pick(&d, words), sel(pick(&d, words), pick(&d, sorts)))}[:d.below(3)]}})
		e.Pop(pick(&d, numbers[1:]))
		e.Pop(e.Depth())
	}
	isTerm(t, e, "(double five)", "(+ 5 5)")
}

// Definitions that a whole script has in one table are each kept at the cost of what stands in it.
func TestManyDefinitionsOfOneTable(t *testing.T) {
	e := elab.New()
	l := []api.Sexp{word("Bool"), word("true")}
	for i := range 20000 {
		l = append(l, word("true"), list(len(l)))
		if at, bad := e.DefineSort("S"+api.Errno(i).Error(), nil, l, 0); at != 0 || bad != api.OK {
			t.Fatalf("%d, error %d", at, bad)
		}
		if at, bad := e.DefineFun("t"+api.Errno(i).Error(), nil, boolean, l, len(l)-2); at != 0 || bad != api.OK {
			t.Fatalf("%d, error %d", at, bad)
		}
	}
	isTerm(t, e, "(and t7 t19999)", "(and true true)")
}
