package elab_test

import (
	"reflect"
	"testing"

	"tribunal/api"
	"tribunal/elab"
)

// P8.1, P8.5: a new environment.
func TestNew(t *testing.T) {
	e := elab.New()
	if e == nil || e.Depth() != 0 || !reflect.DeepEqual(e.Sig(), api.Sig{}) {
		t.Fatalf("%v, %d, %+v", e, e.Depth(), e.Sig())
	}
	isTerm(t, e, "(and true false)", "(and true false)")
	noTerm(t, e, "x", "x", api.ErrUnbound)
	isSort(t, e, "Bool", boolean)
	fails(t, "Pop", e.Pop(1), api.ErrPop)
}

// P8.1: levels up to the limit, and numbers that no level has.
func TestLevels(t *testing.T) {
	e := elab.New()
	isDepth := func(want int) {
		t.Helper()
		if e.Depth() != want {
			t.Errorf("Depth: %d; want %d", e.Depth(), want)
		}
	}
	for _, n := range []int{-1, -77, -1 << 63} {
		fails(t, "Push", e.Push(n), api.ErrArg)
		fails(t, "Pop", e.Pop(n), api.ErrArg)
	}
	fails(t, "Push(0)", e.Push(0), api.OK)
	fails(t, "Pop(0)", e.Pop(0), api.OK)
	isDepth(0)
	for _, n := range []int{1, 2, 1 << 40, 1<<63 - 1} {
		fails(t, "Pop", e.Pop(n), api.ErrPop)
	}
	for _, n := range []int{api.MaxLevels, api.MaxLevels + 1, 1 << 40, 1<<63 - 1} {
		fails(t, "Push", e.Push(n), api.ErrMany)
	}
	isDepth(0)
	fails(t, "Push(3)", e.Push(3), api.OK)
	isDepth(3)
	fails(t, "Pop(4)", e.Pop(4), api.ErrPop)
	isDepth(3)
	fails(t, "Pop(2)", e.Pop(2), api.OK)
	isDepth(1)
	for _, n := range []int{api.MaxLevels - 1, api.MaxLevels, 1<<63 - 1} {
		fails(t, "Push", e.Push(n), api.ErrMany)
	}
	fails(t, "Push", e.Push(api.MaxLevels-2), api.OK)
	isDepth(api.MaxLevels - 1)
	fails(t, "Push(1)", e.Push(1), api.ErrMany)
	fails(t, "Push(0)", e.Push(0), api.OK)
	isDepth(api.MaxLevels - 1)
	ok(t, e.DeclareFun(fun("x", integer)))
	isTerm(t, e, "x", "x")
	fails(t, "Pop", e.Pop(api.MaxLevels), api.ErrPop)
	fails(t, "Pop", e.Pop(api.MaxLevels-1), api.OK)
	isDepth(0)
	noTerm(t, e, "x", "x", api.ErrUnbound)
	fails(t, "Push", e.Push(api.MaxLevels-1), api.OK)
	isDepth(api.MaxLevels - 1)
}

// P8.1: what comes in a level goes with it, of each kind; what came ahead of it stays.
func TestPopTakesBack(t *testing.T) {
	e := elab.New()
	ok(t, e.DeclareSort("U"))
	ok(t, e.DeclareDatas([]api.Datatype{colors()}))
	ok(t, e.DeclareFun(fun("x", integer)))
	defines(t, e, "five", integer, "5")
	definesSort(t, e, "Ints", "(Array Int Int)")
	first := state(t, e)
	ok(t, e.Push(1))
	same(t, told{first.sig, 1, first.answers}, state(t, e))
	for range 2 {
		ok(t, e.DeclareSort("V"))
		ok(t, e.DeclareDatas([]api.Datatype{lists(), {Name: "Tree", Cons: []api.Con{con("leaf"), con("node", sel("left", data("Tree")))}}}))
		ok(t, e.DeclareFun(fun("f", user("V"), data("Tree"), user("V"))))
		ok(t, e.DeclareFun(fun("y", user("V"))))
		defines(t, e, "six", integer, "(+ five x)")
		definesSort(t, e, "Pair", "(Array a U)", "a")
		isTerm(t, e, "(= (f (node leaf) y) y)", "(= (f (node leaf) y) y)")
		isTerm(t, e, "(< (head (tail nil)) six)", "(< (head (tail nil)) (+ 5 x))")
		isSort(t, e, "(Pair V)", array(user("V"), user("U")))
		second := state(t, e)
		ok(t, e.Push(2))
		ok(t, e.DeclareFun(fun("z", integer)))
		isTerm(t, e, "(+ z six)", "(+ z (+ 5 x))")
		ok(t, e.Pop(2))
		same(t, second, state(t, e))
		ok(t, e.Push(1))
		ok(t, e.Pop(2))
		same(t, first, state(t, e))
		ok(t, e.Push(1))
	}
	ok(t, e.Pop(1))
	same(t, first, state(t, e))
	isTerm(t, e, "(+ five x)", "(+ 5 x)")
	isSort(t, e, "(Array U Ints)", array(user("U"), array(integer, integer)))
}

// P8.1: what goes is free to come again as something else, and what was made of it is not mixed up with that.
func TestNamesComeAgain(t *testing.T) {
	e := elab.New()
	ok(t, e.Push(1))
	ok(t, e.DeclareSort("U"))
	ok(t, e.DeclareFun(fun("f", user("U"), user("U"))))
	ok(t, e.Pop(1))
	definesSort(t, e, "U", "(Array Int Bool)")
	isSort(t, e, "U", array(integer, boolean))
	defines(t, e, "f", boolean, "(select s 1)", sel("s", array(integer, boolean)))
	isTerm(t, e, "(f ((as const U) true))", "(select ((as const (Array Int Bool)) true) 1)")
	ok(t, e.Push(1))
	ok(t, e.DeclareFun(fun("n", integer)))
	ok(t, e.Pop(1))
	ok(t, e.DeclareFun(fun("n", boolean)))
	isTerm(t, e, "(not n)", "(not n)")
	if g := e.Sig(); len(g.Users) != 0 || len(g.Datas) != 0 || !reflect.DeepEqual(g.Funs, []api.Fun{fun("n", boolean)}) {
		t.Errorf("%+v", g)
	}
}

// P8.8: behind a Push, whatever comes, and as great a Pop, all is as ahead of it.
func TestPushAndPop(t *testing.T) {
	d := dice{81}
	for range 60 {
		e := elab.New()
		var states []told
		for range 25 {
			switch d.below(4) {
			case 0:
				states = append(states, state(t, e))
				ok(t, e.Push(1))
			case 1:
				n := d.below(len(states) + 1)
				ok(t, e.Pop(n))
				if n > 0 {
					same(t, states[len(states)-n], state(t, e))
					states = states[:len(states)-n]
				}
			default:
				change(t, e, &d)
			}
			if e.Depth() != len(states) {
				t.Fatalf("Depth %d; want %d", e.Depth(), len(states))
			}
		}
	}
}

// change declares or defines something, or tries to.
func change(t *testing.T, e *elab.Env, d *dice) {
	t.Helper()
	switch d.below(5) {
	case 0:
		e.DeclareSort(pick(d, []string{"U", "V", "my sort", "List", "Pair"}))
	case 1:
		tree := api.Datatype{Name: "Tree", Cons: []api.Con{con("leaf", sel("left", user("U"))), con("node")}}
		e.DeclareDatas(pick(d, [][]api.Datatype{{lists()}, {colors(), lists()}, {tree}, {tree, colors()}, nil}))
	case 2:
		e.DeclareFun(pick(d, []api.Fun{fun("x", integer), fun("y", user("U")), fun("f", user("V"), data("Tree")), fun("five", data("Color")), fun("nil", boolean), fun("p", boolean, boolean, boolean), fun("!0", boolean)}))
	case 3:
		nodes, root := read(t, pick(d, []string{"(Array a a)", "Int", "(Array from U)", "List", "Ints"}))
		e.DefineSort(pick(d, []string{"Pair", "Ints", "U", "Twice"}), pick(d, [][]string{nil, {"a"}, {"from", "a"}}), nodes, root)
	case 4:
		nodes, root := read(t, pick(d, []string{"(+ k k)", "5", "x", "(double 3)", "(= y y)"}))
		e.DefineFun(pick(d, []string{"double", "five", "six", "cons", "x"}), pick(d, [][]api.Sel{nil, {sel("k", integer)}}), pick(d, []api.Sort{integer, boolean}), nodes, root)
	}
}
