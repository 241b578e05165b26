package eval_test

import (
	"fmt"
	"math"
	"testing"

	"tribunal/api"
	"tribunal/eval"
)

// These are the tests of P11.2.

func TestFunc(t *testing.T) {
	g := some()
	odd := api.Value{Kind: api.VInt, Int: api.Int{Neg: true, Mag: api.Nat{0, 0}}}
	in := funs(funval("x", num(3)), funval("f", num(0), kase(num(5), num(3)), kase(odd, num(4)), kase(num(6), num(3)), kase(num(7), odd)))
	isAt(t, g, in, num(3), "x")
	isAt(t, g, in, num(5), "f", num(3))
	isAt(t, g, in, num(0), "f", num(4))
	isAt(t, g, in, num(7), "f", num(0))
	isAt(t, g, in, num(7), "f", odd)
	isAt(t, g, in, num(0), "f", num(5))
	isAt(t, g, in, num(0), "y")
	isAt(t, g, in, yes(false), "p")
	isAt(t, g, in, list(), "l")
	isAt(t, g, in, elem("Bool", 0), "fake")
	isAt(t, g, funs(funval("fake", elem("Bool", math.MaxInt), kase(elem("Bool", 5)))), elem("Bool", 5), "fake")
	isAt(t, g, funs(), num(0), "f", num(3))
	isAt(t, g, funs(), tree("red"), "c")

	bools := array(boolean, boolean)
	pick := funs(funval("pick", arr(bools, yes(false), row(yes(true), yes(true)), row(yes(false), yes(true))), kase(arr(bools, yes(true), row(yes(true), yes(false))), tree("dot"))))
	isAt(t, g, pick, arr(bools, yes(false), row(yes(false), yes(true))), "pick", tree("dot"))
	isAt(t, g, pick, arr(bools, yes(true)), "pick", tree("round", num(1), tree("red")))
}

func TestFuncOfSelectors(t *testing.T) {
	g := some()
	one := list(1)
	isAt(t, g, funs(), num(1), "head", one)
	isAt(t, g, funs(), list(), "tail", one)
	isAt(t, g, funs(), num(0), "head", list())
	isAt(t, g, funs(), list(), "tail", list())
	isAt(t, g, funs(funval("head", num(7))), num(7), "head", list())
	isAt(t, g, funs(funval("head", num(7), kase(num(8), one), kase(num(9), list()))), num(9), "head", list())
	isAt(t, g, funs(funval("head", num(7), kase(num(8), one), kase(num(9), list(2)))), num(1), "head", one)
	isAt(t, g, funs(funval("head", num(7), kase(num(8), one))), num(7), "head", list())

	bools := array(boolean, integer)
	lid := arr(bools, num(7), row(yes(true), num(0)), row(yes(false), num(0)))
	box := tree("box", lid, tree("round", api.Value{Kind: api.VInt, Int: api.Int{Neg: true, Mag: api.Nat{0}}}, tree("blue")))
	in := funs(funval("radius", num(1), kase(num(2), tree("box", arr(bools, num(0)), tree("round", num(0), tree("blue")))), kase(num(3), box)))
	isAt(t, g, in, arr(bools, num(0)), "lid", box)
	isAt(t, g, in, tree("round", num(0), tree("blue")), "inside", box)
	isAt(t, g, in, num(2), "radius", box)
	isAt(t, g, in, tree("red"), "hue", box)
	isAt(t, g, in, tree("blue"), "hue", box.Args[1])
	isAt(t, g, in, num(0), "radius", box.Args[1])
	isAt(t, g, in, num(1), "radius", tree("dot"))
	isAt(t, g, in, num(1), "radius", tree("box", arr(bools, num(1)), tree("dot")))
}

func TestFuncFails(t *testing.T) {
	g := some()
	in := funs(funval("x", num(3)))
	for _, name := range []string{"", "unknown", "X", "x ", "|x|", "nil", "cons", "List", "U", "Int", "Bool", "f ", "(f)"} {
		failsAt(t, g, in, api.ErrSymbol, name)
		failsAt(t, g, in, api.ErrSymbol, name, num(1))
		failsAt(t, g, in, api.ErrSymbol, name, num(1), list())
		failsAt(t, g, in, api.ErrSymbol, name, api.Value{})
	}
	for _, c := range []struct {
		name string
		args []api.Value
	}{
		{"x", []api.Value{num(1)}}, {"x", []api.Value{{}}}, {"f", nil}, {"f", []api.Value{num(1), num(2)}}, {"f", []api.Value{{}, {}}}, {"h", []api.Value{num(1)}}, {"h", []api.Value{num(1), list(), num(1)}},
		{"head", nil}, {"head", []api.Value{list(), list()}}, {"is so", nil},
	} {
		failsAt(t, g, in, api.ErrArgs, c.name, c.args...)
	}
	bools := array(boolean, boolean)
	for _, c := range []struct {
		name string
		args []api.Value
	}{
		{"f", []api.Value{{}}}, {"f", []api.Value{yes(true)}}, {"f", []api.Value{limbs(api.MaxLimbs + 1)}}, {"f", []api.Value{{Kind: api.VInt, Index: 1}}}, {"turn", []api.Value{vec(4)}}, {"turn", []api.Value{vec(3, 8)}}, {"turn", []api.Value{vec(3, 0, 1)}},
		{"h", []api.Value{list(), num(1)}}, {"h", []api.Value{num(1), num(1)}}, {"h", []api.Value{list(), list()}}, {"h", []api.Value{num(1), tree("cons", num(1))}}, {"h", []api.Value{num(1), tree("cons", num(1), tree("red"))}},
		{"is so", []api.Value{elem("U", 0), elem("U", 0)}}, {"is so", []api.Value{elem("Bool", 0), elem("Bool", 0)}}, {"is so", []api.Value{elem("U", -1), elem("Bool", 0)}}, {"is so", []api.Value{elem("U", 0), yes(true)}},
		{"head", []api.Value{tree("red")}}, {"head", []api.Value{num(1)}}, {"head", []api.Value{tree("nil", num(1))}}, {"head", []api.Value{tree("cons")}}, {"head", []api.Value{tree("head")}},
		{"g", []api.Value{tree("red"), arr(bools, yes(true))}}, {"g", []api.Value{tree("red"), {Kind: api.VArray, Sort: array(boolean, integer)}}}, {"g", []api.Value{tree("pair"), arr(array(boolean, integer), num(1))}},
	} {
		failsAt(t, g, in, api.ErrValue, c.name, c.args...)
	}
	isAt(t, g, in, num(0), "f", limbs(api.MaxLimbs))
	isAt(t, g, in, yes(false), "is so", elem("U", math.MaxInt), elem("Bool", math.MaxInt))
}

// An argument that value.Check refuses for its parts is no value of its sort; one whose normal form has too many is; ErrValue comes first wherever it stands.
func TestFuncOfGreatValues(t *testing.T) {
	g := forests()
	ok, great, form := grown(api.MaxParts), grown(api.MaxParts+1), turned(30000)
	if parts(ok) != api.MaxParts || parts(great) != api.MaxParts+1 {
		t.Fatal("other numbers of parts")
	}
	turned := turned(21000)
	isAt(t, g, funs(), tree("leaf"), "keep", ok)
	isAt(t, g, funs(), tree("leaf"), "one", turned)
	failsAt(t, g, funs(), api.ErrValue, "keep", great)
	failsAt(t, g, funs(), api.ErrMany, "one", form)
	failsAt(t, g, funs(), api.ErrMany, "two", form, tree("leaf"))
	failsAt(t, g, funs(), api.ErrMany, "two", form, ok)
	failsAt(t, g, funs(), api.ErrValue, "two", form, great)
	failsAt(t, g, funs(), api.ErrValue, "two", form, num(1))
	failsAt(t, g, funs(), api.ErrValue, "two", num(1), great)
	failsAt(t, g, funs(), api.ErrArgs, "one", form, form)
	failsAt(t, g, funs(), api.ErrSymbol, "none", form)
	failsAt(t, g, funs(funval("one", num(1))), api.ErrInterp, "one", form)
}

// Of what is told, and of the Cases' Args, the normal form counts. What is not told plays no part.
func TestFuncOfGreatCases(t *testing.T) {
	g := forests()
	leaf, up, pip := tree("leaf"), tree("up", tree("leaf")), tree("pip")
	small, form := arr(g.Funs[0].Ret, leaf), turned(30000)
	other := arr(g.Funs[0].Ret, up)
	for _, c := range []struct {
		in   api.FunVal
		at   api.Value
		want api.Errno
	}{
		{funval("one", leaf, kase(up, small)), small, api.OK},
		{funval("one", leaf, kase(up, small), kase(up, form)), small, api.ErrMany},
		{funval("one", leaf, kase(up, form), kase(up, small)), small, api.ErrMany},
		{funval("one", leaf, kase(up, small), kase(up, form)), other, api.ErrMany},
		{funval("two", leaf, kase(up, small, leaf), kase(up, form, leaf)), small, api.ErrMany},
		{funval("same", small, kase(other, leaf), kase(form, up)), leaf, api.OK},
		{funval("same", small, kase(form, leaf), kase(other, up)), leaf, api.ErrMany},
		{funval("same", form, kase(other, leaf)), leaf, api.OK},
		{funval("same", form, kase(other, up)), leaf, api.ErrMany},
		{funval("same", small, kase(other, leaf), kase(form, leaf)), leaf, api.OK},
		{funval("s", small, kase(other), kase(form)), leaf, api.OK},
		{funval("s", form, kase(other)), leaf, api.OK},
		{funval("s", form), leaf, api.ErrMany},
		{funval("s", small, kase(form)), leaf, api.ErrMany},
		{funval("flesh", form, kase(form, pip)), tree("pit", small), api.OK},
		{funval("flesh", form, kase(other, pip)), pip, api.OK},
		{funval("flesh", form, kase(other, tree("peel", thin()))), pip, api.ErrMany},
		{funval("flesh", small, kase(form, pip)), pip, api.ErrMany},
		{funval("flesh", small, kase(form, tree("peel", thin()))), pip, api.OK},
		{funval("flesh", small, kase(other, tree("pit", form)), kase(other, pip)), pip, api.ErrMany},
		{funval("flesh", small, kase(other, pip), kase(other, tree("pit", form))), tree("pit", small), api.ErrMany},
	} {
		args := []api.Value{c.at, leaf}[:len(declaredArgs(g, c.in.Name))]
		v, e := eval.Func(g, funs(c.in), c.in.Name, args...)
		if e != c.want || (e != api.OK) != alike(v, api.Value{}) {
			t.Errorf("Func of %s: %.300s, error %d; want error %d", c.in.Name, show(v), e, c.want)
		}
		if e := eval.Check(g, funs(c.in)); e != api.OK {
			t.Errorf("Check: error %d", e)
		}
	}
	isAt(t, g, funs(), small, "same", leaf)
	failsAt(t, g, funs(), api.ErrMany, "wide")
	isAt(t, g, funs(funval("wide", thin())), thin(), "wide")
	failsAt(t, g, funs(), api.ErrMany, "rind", pip)
	isAt(t, g, funs(funval("rind", thin())), thin(), "rind", pip)
	isAt(t, g, funs(), thin(), "rind", tree("peel", thin()))
	if v, e := eval.Func(g, funs(), "less"); e != api.OK || parts(v) != api.MaxParts-1 {
		t.Errorf("Func of less: %d parts, error %d", parts(v), e)
	}
}

func declaredArgs(g api.Sig, name string) []api.Sort {
	args, _, _, _ := (&model{g: g}).declared(name)
	return args
}

// forests is a signature with values of any number of parts, arrays of them, and sorts whose first values are great: W15's has 65535 parts, W16's 131071.
func forests() api.Sig {
	s := array(wide(3), data("T"))
	g := datas(datatype("T", con("leaf"), con("up", sel("down", data("T"))), con("node", sel("left", data("T")), sel("right", data("T")))), datatype("W0", con("end")))
	for i := 1; i <= 16; i++ {
		below := data(fmt.Sprint("W", i-1))
		g.Datas = append(g.Datas, datatype(fmt.Sprint("W", i), con(fmt.Sprint("twice", i), sel(fmt.Sprint("a", i), below), sel(fmt.Sprint("b", i), below)), con(fmt.Sprint("once", i), sel(fmt.Sprint("c", i), below))))
	}
	g.Datas = append(g.Datas, datatype("Fruit", con("pip"), con("pit", sel("flesh", s)), con("peel", sel("rind", data("W16")))))
	g.Funs = []api.Fun{
		fun("same", s, data("T")), fun("keep", data("T"), data("T")), fun("one", data("T"), s), fun("two", data("T"), s, data("T")), fun("wide", data("W16")), fun("less", data("W15")),
		fun("t", data("T")), fun("s", s), fun("fruit", data("Fruit")), fun("p", boolean), fun("x", integer),
	}
	return g
}

// grown is a T of so many parts.
func grown(many int) api.Value {
	switch many {
	case 1:
		return tree("leaf")
	case 2:
		return tree("up", tree("leaf"))
	}
	half := (many - 1) / 2
	return tree("node", grown(half), grown(many-1-half))
}

// turned is an array that has a T of so many parts at three keys, and something else at five: its Else is what the normal form says three times.
func turned(many int) api.Value {
	v := arr(array(wide(3), data("T")), grown(many))
	for i := range uint64(5) {
		v.Rows = append(v.Rows, row(vec(3, i), tree("leaf")))
	}
	return v
}

// thin is a W16 of few parts.
func thin() api.Value {
	v := tree("end")
	for i := 1; i <= 16; i++ {
		v = tree(fmt.Sprint("once", i), v)
	}
	return v
}
