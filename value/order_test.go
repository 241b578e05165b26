package value_test

import (
	"math"
	"math/big"
	"slices"
	"testing"

	"tribunal/api"
	"tribunal/value"
)

// rising asks that each value stands ahead of all behind it.
func rising(t *testing.T, list ...api.Value) {
	t.Helper()
	for i, a := range list {
		for j, b := range list {
			want := 0
			switch {
			case i < j:
				want = -1
			case i > j:
				want = 1
			}
			if got := value.Cmp(a, b); got != want {
				t.Errorf("Cmp(%.200s, %.200s): %d; want %d", show(a), show(b), got, want)
			}
		}
	}
}

// even asks that none stands ahead of another one.
func even(t *testing.T, list ...api.Value) {
	t.Helper()
	for _, a := range list {
		for _, b := range list {
			if got := value.Cmp(a, b); got != 0 {
				t.Errorf("Cmp(%.200s, %.200s): %d", show(a), show(b), got)
			}
		}
	}
}

// P10.3: the order within each Kind, and of the Kinds.
func TestOrder(t *testing.T) {
	s, boxes := array(integer, integer), array(array(integer, integer), boolean)
	one := big.NewInt(1)
	great1 := new(big.Int).Lsh(one, 64*5000) // more limbs than a value may have
	rising(t,
		api.Value{Kind: math.MinInt}, api.Value{Kind: -1}, api.Value{},
		yes(false), yes(true),
		great(new(big.Int).Neg(great1)), num(-3), num(-2), num(0), num(1), num(2), great(new(big.Int).Lsh(one, 64)), great(new(big.Int).Add(new(big.Int).Lsh(one, 64), one)), great(great1),
		vec(-1, 5), vec(0), vec(1), vec(1, 1), vec(1, 0, 1), vec(2), vec(2, 3), vec(64, 0, 0, 7), vec(65), vec(65, math.MaxUint64), vec(65, 0, 1),
		tree(""), tree("", yes(false)), tree("", yes(false), yes(false)), tree("", yes(true)), tree("A"), tree("B", num(9)), tree("a"), tree("a", num(1)), tree("a", num(1), num(1)), tree("a", num(2)), tree("a", num(2), yes(true)), tree("a", num(2), num(0)), tree("a "), tree("a!"), tree("aa"), tree("b"), tree("\xff"),
		api.Value{Kind: api.VArray}, api.Value{Kind: api.VArray, Rows: []api.Row{{}}}, arr(s, num(1)), arr(s, num(1), row(num(1), num(5))), arr(s, num(1), row(num(1), num(5)), row(num(0), num(0))), arr(s, num(1), row(num(1), num(6))), arr(s, num(1), row(num(2), num(0))),
		api.Value{Kind: api.VArray, Else: []api.Value{num(1), num(0)}}, arr(s, num(2)), arr(s, num(2), row(num(0), num(0))), arr(boxes, arr(s, num(1))), arr(boxes, arr(s, num(1), row(num(1), num(1)))),
		elem("", 0), elem("U", math.MinInt), elem("U", -1), elem("U", 0), elem("U", 9), elem("U", 10), elem("U", math.MaxInt), elem("U1", 0), elem("V", 0), elem("u", 0),
		api.Value{Kind: 7}, api.Value{Kind: 8}, api.Value{Kind: 1 << 33}, api.Value{Kind: math.MaxInt},
	)
}

// P10.3: forms that are one number; fields that play no part; Kinds that are none.
func TestEven(t *testing.T) {
	even(t, num(0), api.Value{Kind: api.VInt, Int: api.Int{Neg: true}}, api.Value{Kind: api.VInt, Int: api.Int{Mag: make(api.Nat, 5000)}}, api.Value{Kind: api.VInt, Int: api.Int{Neg: true, Mag: api.Nat{0}}})
	even(t, num(-5), api.Value{Kind: api.VInt, Int: api.Int{Neg: true, Mag: api.Nat{5, 0, 0}}})
	even(t, vec(3, 5), vec(3, 5, 0), vec(3, 5, 0, 0, 0))
	even(t, vec(3), vec(3, 0), turned(vec(3), func(v *api.Value) { v.Bits.Val = api.Nat{} }))
	even(t, tree("a"), turned(tree("a"), func(v *api.Value) { v.Args = []api.Value{} }))
	for _, v := range []api.Value{yes(true), num(3), vec(3, 5), tree("a", num(1)), arr(array(integer, integer), num(1), row(num(1), num(2))), elem("U", 3), {}, {Kind: 7}, {Kind: -1}} {
		named := map[api.ValueKind][]int{api.VBool: {0}, api.VInt: {1, 2, 3}, api.VBits: {4, 5, 6}, api.VTree: {7, 14}, api.VArray: {15, 16}, api.VElem: {7, 8, 9}}
		for i, turn := range strays() {
			if !slices.Contains(named[v.Kind], i) {
				even(t, v, turned(v, turn))
				even(t, tree("a", v), tree("a", turned(v, turn)))
			}
		}
	}
	even(t, arr(array(integer, integer), num(1)), arr(array(boolean, integer), num(1)), arr(api.Sort{}, num(1)))
}

// P10.3: the values as they stand, not what they are: of arrays that are the same.
func TestAsTheyStand(t *testing.T) {
	s := array(boolean, integer)
	rising(t,
		arr(s, num(2), row(yes(false), num(7))), // the same as
		arr(s, num(2), row(yes(false), num(8)), row(yes(false), num(7))),
		arr(s, num(2), row(yes(true), num(2)), row(yes(false), num(7))),
		arr(s, num(7), row(yes(true), num(2))),
	)
}

// P10.3: a difference that stands far within, and lists that are shared many times over.
func TestDeepOrder(t *testing.T) {
	deep := func(n int, leaf api.Value) api.Value {
		for range n {
			leaf = tree("s", leaf)
		}
		return leaf
	}
	rising(t, deep(60000, yes(false)), deep(60000, yes(true)), deep(60000, num(0)))
	rising(t, deep(60001, yes(true)), deep(60000, tree("t")))
	wide := func(last int64) api.Value {
		s := array(integer, integer)
		v := arr(s, num(0))
		for i := range int64(100000) {
			v.Rows = append(v.Rows, row(num(i), num(i)))
		}
		return arr(s, num(0), append(v.Rows, row(num(last), num(0)))...)
	}
	rising(t, wide(1), wide(2))
	bush := func(n int, leaf api.Value) api.Value {
		for range n {
			leaf = tree("node", leaf, leaf)
		}
		return leaf
	}
	rising(t, bush(50, num(1)), bush(50, num(2)))
	even(t, bush(50, num(1)), bush(50, num(1)))
	rising(t, tree("pair", bush(50, num(1)), num(1)), tree("pair", bush(50, num(1)), num(2)))
	elses := func(n int, leaf api.Value) api.Value {
		for range n {
			leaf = arr(api.Sort{}, leaf, row(leaf, leaf), row(leaf, leaf))
		}
		return leaf
	}
	rising(t, elses(40, num(1)), elses(40, num(2)))
	even(t, elses(40, num(1)), elses(40, num(1)))
	even(t, endlessValue(), endlessValue())
	many := func(last ...api.Value) api.Value { // more lists than a value has parts, and then more
		var args []api.Value
		for i := range int64(70000) {
			args = append(args, tree("s", num(i)))
		}
		return tree("t", append(args, last...)...)
	}
	rising(t, many(), many(tree("s", num(1))), many(tree("s", num(2))), many(tree("s", num(2)), num(0)), many(tree("s", num(2)), num(1)))
	rising(t, many(bush(50, num(1)), num(1)), many(bush(50, num(1)), num(2)), many(bush(50, num(2)), num(1)))
	rising(t, arr(api.Sort{}, many(), row(num(1), tree("s", num(1)))), arr(api.Sort{}, many(), row(num(1), tree("s", num(2)))), arr(api.Sort{}, many(), row(num(2), tree("s", num(1)))))
}

// P10.3: a list and a beginning of it, in one memory.
func TestBeginnings(t *testing.T) {
	all := []api.Value{num(1), num(2), num(3)}
	rising(t, tree("a", all[:0]...), tree("a", all[:1]...), tree("a", all[:2]...), tree("a", all...), tree("a", all[1:]...))
	rows := []api.Row{row(num(1), num(2)), row(num(3), num(4))}
	s := array(integer, integer)
	rising(t, arr(s, num(0), rows[:0]...), arr(s, num(0), rows[:1]...), arr(s, num(0), rows...), arr(s, num(0), rows[1:]...))
}

// P10.3: Same, of values that differ in form, and of those that are not the same.
func TestSame(t *testing.T) {
	g := some()
	s, ints := array(boolean, integer), array(integer, integer)
	for _, x := range []struct {
		a, b api.Value
		s    api.Sort
		want bool
	}{
		{yes(true), yes(true), boolean, true}, {yes(true), yes(false), boolean, false}, {num(3), turned(num(3), func(v *api.Value) { v.Int.Mag = api.Nat{3, 0} }), integer, true}, {num(3), num(-3), integer, false}, {num(0), num(1), integer, false},
		{vec(3, 5), vec(3, 5, 0), wide(3), true}, {vec(3, 5), vec(3, 4), wide(3), false}, {elem("U", 1), elem("U", 1), user("U"), true}, {elem("U", 1), elem("U", 2), user("U"), false},
		{list(1, 2), list(1, 2), data("List"), true}, {list(1, 2), list(1), data("List"), false}, {list(1, 2), list(2, 1), data("List"), false}, {list(), list(0), data("List"), false}, {tree("red"), tree("green"), data("Color"), false},
		{arr(s, num(7), row(yes(true), num(2))), arr(s, num(2), row(yes(false), num(7))), s, true}, {arr(s, num(7), row(yes(true), num(2))), arr(s, num(2), row(yes(true), num(7))), s, false},
		{arr(ints, num(7), row(num(1), num(2)), row(num(3), num(4))), arr(ints, num(7), row(num(3), num(5)), row(num(1), num(2)), row(num(3), num(4))), ints, true}, {arr(ints, num(7), row(num(1), num(2))), arr(ints, num(7), row(num(2), num(2))), ints, false}, {arr(ints, num(7)), arr(ints, num(8)), ints, false},
	} {
		for _, pair := range [][2]api.Value{{x.a, x.b}, {x.b, x.a}} {
			if got, e := value.Same(pair[0], pair[1], x.s, g); e != api.OK || got != x.want {
				t.Errorf("Same(%s, %s): %v, error %d; want %v", show(pair[0]), show(pair[1]), got, e, x.want)
			}
		}
	}
}

// P10.3: Same's errors: all of the first value ahead of those of the second.
func TestSameFails(t *testing.T) {
	g := datas(append(one("W", api.MaxParts-1), datatype("D", con("a"), con("b"), con("c", data("W"))), datatype("L", con("n"), con("l", data("L"), data("L"))))...)
	s := array(data("D"), array(boolean, data("L")))
	to := s.Args[1]
	leaf, other := tree("n"), tree("l", tree("n"), tree("n"))
	fine := arr(s, arr(to, leaf))
	wrong := arr(s, arr(to, yes(true)))
	long := arr(s, arr(to, bushyOf("l", "n", 16)))
	unfolds := arr(s, arr(to, leaf), row(tree("a"), arr(to, other)), row(tree("b"), arr(to, other)))
	for what, x := range map[string]struct {
		a, b api.Value
		want api.Errno
	}{
		"fine": {fine, fine, api.OK}, "wrong first": {wrong, fine, api.ErrValue}, "wrong second": {fine, wrong, api.ErrValue}, "long first": {long, fine, api.ErrMany}, "long second": {fine, long, api.ErrMany},
		"wrong, then long": {wrong, long, api.ErrValue}, "long, then wrong": {long, wrong, api.ErrMany}, "unfolds first": {unfolds, fine, api.ErrMany}, "unfolds second": {fine, unfolds, api.ErrMany},
		"unfolds, then wrong": {unfolds, wrong, api.ErrMany}, "wrong, then unfolds": {wrong, unfolds, api.ErrValue}, "unfolds both": {unfolds, unfolds, api.ErrMany},
	} {
		if same, e := value.Same(x.a, x.b, s, g); e != x.want || same != (x.want == api.OK) {
			t.Errorf("%s: Same: %v, error %d; want %d", what, same, e, x.want)
		}
	}
}

// bushyOf is bushy, of other constructors.
func bushyOf(node, leaf string, n int) api.Value {
	v := tree(leaf)
	for range n {
		v = tree(node, v, v)
	}
	return v
}
