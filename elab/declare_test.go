package elab_test

import (
	"reflect"
	"strconv"
	"strings"
	"testing"

	"tribunal/api"
	"tribunal/elab"
	"tribunal/sort"
)

func predefinedSorts() []string { return []string{"Bool", "Int", "BitVec", "Array"} }

func predefinedFuns() []string {
	return strings.Fields("true false not and or xor => = distinct ite - + * div mod abs <= < >= > select store const concat extract repeat zero_extend sign_extend rotate_left rotate_right is bvnot bvneg bvand bvor bvxor bvnand bvnor bvxnor bvcomp bvadd bvsub bvmul bvudiv bvurem bvsdiv bvsrem bvsmod bvshl bvlshr bvashr bvult bvule bvugt bvuge bvslt bvsle bvsgt bvsge")
}

// refusesSort asks all that declare or define a sort's name to refuse it.
func refusesSort(t *testing.T, e *elab.Env, name string) {
	t.Helper()
	fails(t, "DeclareSort "+name, e.DeclareSort(name), api.ErrThere)
	fails(t, "DeclareDatas "+name, e.DeclareDatas([]api.Datatype{{Name: "New", Cons: []api.Con{con("new")}}, {Name: name, Cons: []api.Con{con("newer")}}}), api.ErrThere)
	nodes, root := read(t, "Int")
	if at, bad := e.DefineSort(name, nil, nodes, root); at != 0 || bad != api.ErrThere {
		t.Errorf("DefineSort %s: %d, error %d", name, at, bad)
	}
}

func refusesFun(t *testing.T, e *elab.Env, name string) {
	t.Helper()
	fails(t, "DeclareFun "+name, e.DeclareFun(fun(name, integer)), api.ErrThere)
	newer := api.Datatype{Name: "Newer", Cons: []api.Con{con("newer"), con(name)}}
	newest := api.Datatype{Name: "Newest", Cons: []api.Con{con("newest", sel("new of", integer), sel(name, integer))}}
	for _, l := range [][]api.Datatype{{newer}, {newest}, {{Name: "New", Cons: []api.Con{con("new")}}, newest}} {
		fails(t, "DeclareDatas with "+name, e.DeclareDatas(l), api.ErrThere)
	}
	nodes, root := read(t, "5")
	if at, bad := e.DefineFun(name, nil, integer, nodes, root); at != 0 || bad != api.ErrThere {
		t.Errorf("DefineFun %s: %d, error %d", name, at, bad)
	}
}

// P8.2, P8.3: names that are predefined, declared or defined are in use; those of sorts apart from those of functions.
func TestNamesInUse(t *testing.T) {
	e := env(t)
	before := state(t, e)
	for _, name := range append(predefinedSorts(), "U", "my sort", "List", "Color", "Pair", "Row", "Ints") {
		refusesSort(t, e, name)
	}
	for _, name := range append(predefinedFuns(), "x", "f", "is so", "let", "nil", "cons", "head", "tail", "light green", "double", "five") {
		refusesFun(t, e, name)
	}
	same(t, before, state(t, e))
	ok(t, e.Push(1))
	refusesSort(t, e, "U")
	refusesFun(t, e, "five")
	for _, name := range []string{"and", "x", "nil", "double", "_", "let", "as", "bv5", "true", "N", "-", "!"} {
		ok(t, e.DeclareSort(name))
		isSort(t, e, "|"+name+"|", user(name))
	}
	for _, name := range []string{"Bool", "Int", "BitVec", "Array", "U", "List", "Pair", "_", "!", "forall", "bv5", "bv", "Or", "bvnego", "n"} {
		ok(t, e.DeclareFun(fun(name, integer)))
		isTerm(t, e, "|"+name+"|", sort.Quote(name))
	}
}

// P8.2: what sort.CheckSig has against the signature with it; nothing is changed by it.
func TestRefusedDeclarations(t *testing.T) {
	e := env(t)
	before := state(t, e)
	long := strings.Repeat("n", api.MaxName+1)
	for _, name := range []string{"", "@x", ".x", "a|b", `a\b`, "a\nb", "\x7f", long} {
		fails(t, "DeclareSort", e.DeclareSort(name), api.ErrName)
		fails(t, "DeclareFun", e.DeclareFun(fun(name, integer)), api.ErrName)
		fails(t, "DeclareDatas", e.DeclareDatas([]api.Datatype{{Name: "New", Cons: []api.Con{con("new", sel(name, integer))}}}), api.ErrName)
	}
	loop := []api.Sort{integer, integer}
	loop[1] = api.Sort{Kind: api.KArray, Args: loop}
	for _, c := range []struct {
		f    api.Fun
		want api.Errno
	}{
		{fun("new", user("V")), api.ErrSort}, {fun("new", integer, data("U")), api.ErrSort}, {fun("new", api.Sort{}), api.ErrSort}, {fun("new", wide(0)), api.ErrSort}, {fun("new", user("List")), api.ErrSort}, {fun("new", user("Pair")), api.ErrSort},
		{fun("new", integer, times(integer, api.MaxArgs+1)...), api.ErrMany}, {fun("new", loop[1]), api.ErrMany}, {fun("@", user("V")), api.ErrName}, {fun("x", user("V")), api.ErrThere}, {fun("and", user("V"), times(loop[1], 99)...), api.ErrThere},
	} {
		fails(t, "DeclareFun "+c.f.Name, e.DeclareFun(c.f), c.want)
	}
	leaf := con("leaf")
	for i, c := range []struct {
		l    []api.Datatype
		want api.Errno
	}{
		{[]api.Datatype{{Name: "Tree"}}, api.ErrMany},
		{[]api.Datatype{{Name: "Tree", Cons: []api.Con{leaf, leaf}}}, api.ErrTwice},
		{[]api.Datatype{{Name: "Tree", Cons: []api.Con{leaf}}, {Name: "Tree", Cons: []api.Con{con("node")}}}, api.ErrTwice},
		{[]api.Datatype{{Name: "Tree", Cons: []api.Con{con("node", sel("leaf", integer)), leaf}}}, api.ErrTwice},
		{[]api.Datatype{{Name: "Tree", Cons: []api.Con{con("node", sel("left", data("Forest")))}}}, api.ErrSort},
		{[]api.Datatype{{Name: "Tree", Cons: []api.Con{con("node", sel("left", user("Tree")))}}}, api.ErrSort},
		{[]api.Datatype{{Name: "Tree", Cons: []api.Con{con("node", sel("left", data("Tree")))}}}, api.ErrGround},
		{[]api.Datatype{{Name: "Tree", Cons: []api.Con{leaf, con("node", sel("left", array(integer, data("Tree"))))}}}, api.ErrNest},
		{[]api.Datatype{{Name: "Tree", Cons: []api.Con{leaf, con("node", sel("left", loop[1]))}}}, api.ErrMany},
		{[]api.Datatype{{Name: "Tree", Cons: []api.Con{leaf, leaf, con("node", sel("x", loop[1]))}}}, api.ErrThere},
		{[]api.Datatype{{Name: "Tree"}, {Name: "Color"}}, api.ErrThere},
		{[]api.Datatype{{Name: "Tree", Cons: []api.Con{con("five")}}}, api.ErrThere},
		{[]api.Datatype{{Name: "Ints", Cons: []api.Con{leaf}}}, api.ErrThere},
	} {
		if got := e.DeclareDatas(c.l); got != c.want {
			t.Errorf("%d: error %d; want %d", i, got, c.want)
		}
	}
	same(t, before, state(t, e))
}

// P8.2: as many symbols as there may be, of all levels, and one more.
func TestManySymbols(t *testing.T) {
	e := elab.New()
	l := []api.Datatype{}
	for i := range 32 {
		d := api.Datatype{Name: "D" + strconv.Itoa(i)}
		for j := range api.MaxCons {
			d.Cons = append(d.Cons, con("c"+strconv.Itoa(i)+"."+strconv.Itoa(j)))
		}
		l = append(l, d)
	}
	ok(t, e.DeclareDatas(l)) // 32 + 32 * 64
	ok(t, e.Push(1))
	big := api.Datatype{Name: "Big"}
	for i := range 30 {
		c := con("big" + strconv.Itoa(i))
		for j := range api.MaxArgs {
			c.Sels = append(c.Sels, sel(c.Name+"."+strconv.Itoa(j), data("D3")))
		}
		big.Cons = append(big.Cons, c)
	}
	ok(t, e.DeclareDatas([]api.Datatype{big})) // 1 + 30 * 65
	for i := range api.MaxSymbols - 32 - 32*64 - 1 - 30*65 - 2 {
		ok(t, e.DeclareFun(fun("f"+strconv.Itoa(i), integer)))
	}
	defines(t, e, "half", integer, "(+ n f0)", sel("n", integer))
	noFun(t, e, "six", []api.Sel{sel("n", integer), sel("m", integer), sel("k", integer)}, integer, "(+ n q)", "", api.ErrMany)
	ok(t, e.DeclareSort("U"))
	ok(t, e.DeclareFun(fun("last", user("U"))))
	before := e.Sig()
	fails(t, "DeclareFun", e.DeclareFun(fun("more", integer)), api.ErrMany)
	fails(t, "DeclareFun", e.DeclareFun(fun("last", integer)), api.ErrThere)
	fails(t, "DeclareSort", e.DeclareSort("V"), api.ErrMany)
	fails(t, "DeclareDatas", e.DeclareDatas([]api.Datatype{colors()}), api.ErrMany)
	fails(t, "DeclareDatas", e.DeclareDatas(nil), api.OK)
	noFun(t, e, "six", []api.Sel{sel("n", integer)}, integer, "6", "", api.ErrMany)
	defines(t, e, "six", integer, "(+ 6 (half 3))")
	definesSort(t, e, "Pair", "(Array a U)", "a")
	if !reflect.DeepEqual(e.Sig(), before) {
		t.Error("what was refused has changed what is declared")
	}
	isTerm(t, e, "(= six f0)", "(= (+ 6 (+ 3 f0)) f0)")
	ok(t, e.Pop(1))
	ok(t, e.DeclareFun(fun("more", integer)))
}

// P8.2, P8.5: all that is declared, in the order in which it was.
func TestSig(t *testing.T) {
	e := elab.New()
	isSig := func(want api.Sig) {
		t.Helper()
		if got := e.Sig(); !reflect.DeepEqual(got, want) {
			t.Errorf("%+v; want %+v", got, want)
		}
	}
	var want api.Sig
	ok(t, e.DeclareSort("Z"))
	ok(t, e.Push(1))
	ok(t, e.DeclareSort("A"))
	want.Users = []string{"Z", "A"}
	isSig(want)
	ok(t, e.DeclareFun(fun("z", user("A"), user("Z"), integer)))
	ok(t, e.DeclareFun(fun("a", boolean)))
	want.Funs = []api.Fun{fun("z", user("A"), user("Z"), integer), fun("a", boolean)}
	isSig(want)
	tree := api.Datatype{Name: "Tree", Cons: []api.Con{con("leaf"), con("node", sel("kids", data("Forest")))}}
	forest := api.Datatype{Name: "Forest", Cons: []api.Con{con("empty"), con("more", sel("first", data("Tree")), sel("rest", data("Forest")))}}
	ok(t, e.DeclareDatas([]api.Datatype{tree, forest}))
	ok(t, e.DeclareDatas([]api.Datatype{colors()}))
	want.Datas = []api.Datatype{tree, forest, colors()}
	isSig(want)
	defines(t, e, "five", integer, "5")
	definesSort(t, e, "Ints", "(Array Int Int)")
	isSig(want)
	ok(t, e.DeclareFun(fun("f", data("Color"), array(data("Tree"), data("Forest")))))
	want.Funs = append(want.Funs, fun("f", data("Color"), array(data("Tree"), data("Forest"))))
	isSig(want)
	isTerm(t, e, "(f ((as const (Array Tree Forest)) (more leaf empty)))", "(f ((as const (Array Tree Forest)) (more leaf empty)))")
	ok(t, e.Pop(1))
	isSig(api.Sig{Users: []string{"Z"}})
}
