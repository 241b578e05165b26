package eval_test

import (
	"math"
	"slices"
	"testing"

	"tribunal/api"
	"tribunal/eval"
	"tribunal/sort"
)

// These are the tests of P11.1.

// badSigs are signatures with an error each.
func badSigs() map[api.Errno]api.Sig {
	many := api.Sig{}
	for range api.MaxSymbols + 1 {
		many.Users = append(many.Users, "U")
	}
	return map[api.Errno]api.Sig{
		api.ErrMany:   many,
		api.ErrName:   {Funs: []api.Fun{fun("", integer)}},
		api.ErrTwice:  {Funs: []api.Fun{fun("x", integer), fun("x", integer)}},
		api.ErrSort:   {Funs: []api.Fun{fun("x", wide(0))}},
		api.ErrNest:   datas(datatype("Bad", con("leaf"), con("node", sel("kids", array(integer, data("Bad")))))),
		api.ErrGround: datas(datatype("Loop", con("loop", sel("back", data("Loop"))))),
	}
}

// The signature's error comes first, also where the interpretation may not be, or has nothing.
func TestSignatures(t *testing.T) {
	for want, g := range badSigs() {
		if e := sort.CheckSig(g); e != want {
			t.Fatalf("CheckSig: error %d; want %d", e, want)
		}
		for _, in := range []api.Interp{funs(), funs(funval("x", num(1))), funs(funval("unknown", num(1)))} {
			if e := eval.Check(g, in); e != want {
				t.Errorf("Check: error %d; want %d", e, want)
			}
			failsAt(t, g, in, want, "x")
			failsAt(t, g, in, want, "unknown", num(1))
		}
	}
	if e := eval.Check(api.Sig{}, funs()); e != api.OK {
		t.Errorf("Check of nothing: error %d", e)
	}
}

// mayBe asks of Check, Func and Terms whether an interpretation may be.
func mayBe(t *testing.T, g api.Sig, in api.Interp, want bool) {
	t.Helper()
	b := tableOf(t, g)
	x := app(t, b, api.OTrue)
	if want {
		if e := eval.Check(g, in); e != api.OK {
			t.Errorf("Check: error %d", e)
		}
		is(t, b, in, x, yes(true))
		return
	}
	if e := eval.Check(g, in); e != api.ErrInterp {
		t.Errorf("Check: error %d; want ErrInterp", e)
	}
	fails(t, b, in, api.ErrInterp, x)
	fails(t, b, in, api.ErrInterp)
	failsAt(t, g, in, api.ErrInterp, "unknown")
	failsAt(t, g, in, api.ErrInterp, "x")
}

func TestMayBe(t *testing.T) {
	g := some()
	mayBe(t, g, funs(), true)
	mayBe(t, g, api.Interp{Funs: []api.FunVal{}}, true)
	mayBe(t, g, funs(funval("x", num(1))), true)
	mayBe(t, g, funs(funval("x", num(1), kase(num(2)), kase(num(3)))), true)
	mayBe(t, g, funs(funval("f", num(1), kase(num(2), num(1)), kase(num(3), num(1)))), true)
	mayBe(t, g, funs(funval("u", elem("U", math.MaxInt)), funval("fake", elem("Bool", 0))), true)
	mayBe(t, g, funs(funval("head", num(1)), funval("tail", list(1, 2), kase(list(), list()), kase(list(3), list(4)))), true)
	mayBe(t, g, funs(funval("x", num(1)), funval("y", num(1)), funval("f", num(1)), funval("radius", num(2), kase(num(1), tree("dot")))), true)
	d := &dice{2}
	for range 50 {
		mayBe(t, g, d.interp(g), true)
	}
}

// Of several FunVals and Cases one that may not be, at each place.
func TestMayNotBe(t *testing.T) {
	g := some()
	good := []api.FunVal{funval("y", num(1)), funval("tail", list(), kase(list(1), list(2))), funval("h", yes(true), kase(yes(false), num(1), list()))}
	for what, f := range map[string]api.FunVal{
		"an unknown name":              funval("unknown", num(1)),
		"no name":                      funval("", num(1)),
		"a constructor":                funval("nil", list()),
		"a constructor with arguments": funval("cons", list(), kase(list(1), num(1), list())),
		"a datatype":                   funval("List", list()),
		"a user sort":                  funval("U", elem("U", 0)),
		"another name":                 funval("X", num(1)),
		"a name with a bar":            funval("|x|", num(1)),
		"no Else":                      {Name: "x"},
		"no Else, with a Case":         {Name: "x", Cases: []api.Case{kase(num(1))}},
		"Else of another sort":         funval("x", yes(true)),
		"Else of another user sort":    funval("u", elem("Bool", 1)),
		"Else below 0":                 funval("u", elem("U", -1)),
		"Else of another datatype":     funval("l", tree("red")),
		"Else with a field too much":   funval("x", api.Value{Kind: api.VInt, Bool: true}),
		"Else with a tree's fault":     funval("l", tree("cons", num(1))),
		"Else wider":                   funval("b3", vec(4)),
		"Else above":                   funval("b3", vec(3, 8)),
		"Else too long":                funval("x", great(pow(64*api.MaxLimbs))),
		"Else an array of another one": funval("a", arr(array(integer, boolean), yes(true))),
		"an argument of a constant":    funval("x", num(1), kase(num(2), num(3))),
		"too few arguments":            funval("h", yes(true), kase(yes(true), num(1))),
		"no arguments":                 funval("f", num(1), kase(num(2))),
		"too many arguments":           funval("f", num(1), kase(num(2), num(1), num(1))),
		"an argument of another sort":  funval("f", num(1), kase(num(2), yes(true))),
		"the second argument":          funval("is so", yes(true), kase(yes(true), elem("U", 0), elem("U", 0))),
		"the first argument":           funval("is so", yes(true), kase(yes(true), elem("Bool", 0), elem("Bool", 0))),
		"arguments changed":            funval("h", yes(true), kase(yes(true), list(), num(1))),
		"a value of another sort":      funval("f", num(1), kase(yes(true), num(1))),
		"a value that is none":         funval("x", num(1), kase(api.Value{})),
		"a later Case":                 funval("f", num(1), kase(num(2), num(1)), kase(num(2), num(1)), kase(num(2), num(1), num(2))),
		"a later Case's value":         funval("f", num(1), kase(num(2), num(1)), kase(yes(true), num(1))),
		"a selector's constructor":     funval("hue", tree("blue"), kase(tree("blue"), tree("dot"), tree("dot"))),
		"a selector's argument":        funval("hue", tree("blue"), kase(tree("blue"), tree("blue"))),
		"a selector's value":           funval("hue", tree("blue"), kase(tree("dot"), tree("dot"))),
		"a selector's Else":            funval("hue", tree("dot")),
		"a selector without arguments": funval("hue", tree("blue"), kase(tree("blue"))),
	} {
		t.Run(what, func(t *testing.T) {
			mayBe(t, g, funs(f), false)
			for at := range len(good) + 1 {
				mayBe(t, g, funs(slices.Insert(slices.Clone(good), at, f)...), false)
			}
		})
	}
	for at, f := range good { // a name twice, next to one another and not, with the same and with other Cases
		mayBe(t, g, funs(append(slices.Clone(good), f)...), false)
		mayBe(t, g, funs(slices.Insert(slices.Clone(good), at, f)...), false)
		f.Cases = nil
		mayBe(t, g, funs(append(slices.Clone(good), f)...), false)
	}
	mayBe(t, g, funs(good...), true)
}

// Numbers and values at a limit, and one beyond it.
func TestLimitsOfInterpretations(t *testing.T) {
	g := some()
	most, over := limbs(api.MaxLimbs), limbs(api.MaxLimbs+1)
	padded := api.Value{Kind: api.VInt, Int: api.Int{Neg: true, Mag: append(slices.Clone(most.Int.Mag), 0, 0)}}
	for _, c := range []struct {
		v    api.Value
		want bool
	}{{most, true}, {padded, true}, {over, false}} {
		mayBe(t, g, funs(funval("x", c.v)), c.want)
		mayBe(t, g, funs(funval("x", num(1), kase(c.v))), c.want)
		mayBe(t, g, funs(funval("f", num(1), kase(num(1), c.v))), c.want)
	}
	s := array(integer, integer)
	g.Funs = append(g.Funs, fun("of", integer, s))
	full, more := rows(s, api.MaxParts/2-1), rows(s, api.MaxParts/2)
	if parts(full) != api.MaxParts {
		t.Fatal("not full")
	}
	deep := list(make([]int64, api.MaxParts/2-1)...)
	for _, c := range []struct {
		v    api.Value
		name string
		want bool
	}{{full, "a", true}, {more, "a", false}, {deep, "l", true}, {tree("cons", num(1), deep), "l", false}} {
		mayBe(t, g, funs(funval(c.name, c.v)), c.want)
		if c.name == "a" {
			mayBe(t, g, funs(funval("of", num(1), kase(num(2), c.v))), c.want)
			mayBe(t, g, funs(funval("a", rows(s, 0), kase(c.v))), c.want)
		} else {
			mayBe(t, g, funs(funval("head", num(1), kase(num(2), c.v))), c.want)
		}
	}
}

// limbs is a number of so many limbs, all of whose bits are set.
func limbs(many int) api.Value {
	return api.Value{Kind: api.VInt, Int: api.Int{Mag: slices.Repeat(api.Nat{math.MaxUint64}, many)}}
}

// rows is an array of Ints with so many rows, in normal form.
func rows(s api.Sort, many int) api.Value {
	v := arr(s, num(0))
	for i := range many {
		v.Rows = append(v.Rows, row(num(int64(i)), num(int64(i)+1)))
	}
	return v
}

// What is declared besides plays no part: the sorts' names are many, and lean on one another.
func TestWhatIsDeclaredBesides(t *testing.T) {
	g := datas(
		datatype("A", con("a1", sel("a2", array(integer, data("B"))), sel("a3", user("U")))),
		datatype("B", con("b1", sel("b2", data("C")), sel("b3", data("C"))), con("b4")),
		datatype("C", con("c1", sel("c2", data("D")), sel("c3", array(user("W"), boolean))), con("c4", sel("c5", data("C")))),
		datatype("D", con("d1")),
		datatype("E", con("e1", sel("e2", data("A")))),
	)
	g.Users = []string{"V", "U", "W"}
	for _, data := range g.Datas {
		g.Funs = append(g.Funs, fun("of "+data.Name, api.Sort{Kind: api.KData, Name: data.Name}))
	}
	g.Funs = append(g.Funs, fun("v", user("V")), fun("w", array(array(data("E"), user("U")), data("D"))))
	d := &dice{9}
	for range 20 {
		in := d.interp(g)
		mayBe(t, g, in, true)
		b := tableOf(t, g)
		m := newModel(b, g, in)
		for _, f := range g.Funs {
			i := call(t, b, f.Name)
			is(t, b, in, i, m.norm(i))
		}
	}
}
