package value_test

import (
	"math"
	"math/big"
	"slices"
	"testing"

	"tribunal/api"
	"tribunal/value"
)

// of is a value and the sort of which it is one.
type of struct {
	v api.Value
	s api.Sort
}

// right are values of each sort, in all forms.
func right() []of {
	ints, bools, byColor := array(integer, integer), array(boolean, boolean), array(data("Color"), integer)
	deep := array(boolean, array(wide(3), data("List")))
	top := new(big.Int).Lsh(big.NewInt(1), 64*api.MaxLimbs)
	longest := great(top.Sub(top, big.NewInt(1)))
	least := great(new(big.Int).Neg(top))
	return []of{
		{yes(false), boolean}, {yes(true), boolean},
		{num(0), integer}, {num(-7), integer}, {longest, integer}, {least, integer},
		{api.Value{Kind: api.VInt, Int: api.Int{Neg: true}}, integer}, {api.Value{Kind: api.VInt, Int: api.Int{Neg: true, Mag: api.Nat{0, 0}}}, integer},
		{api.Value{Kind: api.VInt, Int: api.Int{Mag: append(slices.Clone(longest.Int.Mag), 0, 0)}}, integer}, {api.Value{Kind: api.VInt, Int: api.Int{Mag: make(api.Nat, 9000)}}, integer},
		{vec(1), wide(1)}, {vec(1, 1), wide(1)}, {vec(1, 1, 0, 0), wide(1)}, {vec(64, math.MaxUint64), wide(64)}, {vec(65, 0, 1), wide(65)}, {vec(4096), wide(4096)}, {vec(3, make([]uint64, 900)...), wide(3)},
		{elem("U", 0), user("U")}, {elem("U", math.MaxInt), user("U")}, {elem("my sort", 3), user("my sort")}, {elem("Bool", 3), user("Bool")},
		{tree("red"), data("Color")}, {tree("light a"), data("Three")}, {tree("pair", tree("green"), yes(true)), data("Pair")}, {list(), data("List")}, {list(1, -2, 3), data("List")},
		{tree("leaf", elem("U", 2)), data("Tree")}, {tree("node", tree("some", tree("leaf", elem("U", 0)), tree("none"))), data("Tree")},
		{tree("box", arr(array(integer, data("Pair")), tree("pair", tree("red"), yes(false)), row(num(3), tree("pair", tree("red"), yes(true)))), yes(true)), data("Box")},
		{arr(ints, num(0)), ints}, {arr(ints, num(0), row(num(1), num(2)), row(num(1), num(3)), row(num(4), num(0))), ints},
		{arr(bools, yes(true), row(yes(true), yes(true)), row(yes(false), yes(false)), row(yes(true), yes(false))), bools}, {arr(byColor, num(9), row(tree("red"), num(-1))), byColor},
		{arr(deep, arr(deep.Args[1], list(), row(vec(3, 5), list(7))), row(yes(true), arr(deep.Args[1], list(1)))), deep},
		{arr(array(ints, bools), arr(bools, yes(false)), row(arr(ints, num(1)), arr(bools, yes(true)))), array(ints, bools)},
		{arr(array(user("U"), user("Bool")), elem("Bool", 0), row(elem("U", 1), elem("Bool", 1))), array(user("U"), user("Bool"))},
	}
}

// turned is a value with something else about it.
func turned(v api.Value, turn func(v *api.Value)) api.Value {
	turn(&v)
	return v
}

// strays are what may be in a field that a Kind does not name.
func strays() []func(v *api.Value) {
	return []func(v *api.Value){
		func(v *api.Value) { v.Bool = true },
		func(v *api.Value) { v.Int.Neg = true },
		func(v *api.Value) { v.Int.Mag = api.Nat{0} },
		func(v *api.Value) { v.Int.Mag = api.Nat{1} },
		func(v *api.Value) { v.Bits.Width = 1 },
		func(v *api.Value) { v.Bits.Width = -1 },
		func(v *api.Value) { v.Bits.Val = api.Nat{0} },
		func(v *api.Value) { v.Name = "U" },
		func(v *api.Value) { v.Index = 1 },
		func(v *api.Value) { v.Index = -1 },
		func(v *api.Value) { v.Sort.Kind = api.KBool },
		func(v *api.Value) { v.Sort.Width = 1 },
		func(v *api.Value) { v.Sort.Name = "x" },
		func(v *api.Value) { v.Sort.Args = make([]api.Sort, 1) },
		func(v *api.Value) { v.Args = []api.Value{{}} },
		func(v *api.Value) { v.Rows = []api.Row{{}} },
		func(v *api.Value) { v.Else = []api.Value{{}} },
	}
}

// P10.1: values of each sort; and none of them is one of another sort.
func TestRightValues(t *testing.T) {
	for _, x := range right() {
		for _, y := range right() {
			if name(x.s) == name(y.s) && x.s.Kind == y.s.Kind {
				if e := value.Check(x.v, y.s, some()); e != api.OK {
					t.Errorf("Check(%s, %s): error %d", show(x.v), name(y.s), e)
				}
			} else {
				refuses(t, show(x.v)+" as one of "+name(y.s), x.v, y.s, some(), api.ErrValue)
			}
		}
	}
}

// P10.1: empty lists that are not nil are none.
func TestEmptyLists(t *testing.T) {
	for _, x := range right() {
		v := x.v
		empty := turned(v, func(v *api.Value) {
			v.Int.Mag, v.Bits.Val = append(api.Nat{}, v.Int.Mag...), append(api.Nat{}, v.Bits.Val...)
			v.Args, v.Rows, v.Else = append([]api.Value{}, v.Args...), append([]api.Row{}, v.Rows...), append([]api.Value{}, v.Else...)
			v.Sort.Args = append([]api.Sort{}, v.Sort.Args...)
		})
		a, e := value.Norm(v, x.s, some())
		b, f := value.Norm(empty, x.s, some())
		if e != api.OK || f != api.OK || !alike(a, b) {
			t.Errorf("%s: error %d, with empty lists error %d", show(v), e, f)
		}
	}
}

// P10.1: fields that the Kind does not name are zero.
func TestStrayFields(t *testing.T) {
	named := map[api.ValueKind][]int{api.VBool: {0}, api.VInt: {1, 2, 3}, api.VBits: {4, 5, 6}, api.VTree: {7, 14}, api.VArray: {10, 11, 12, 13, 15, 16}, api.VElem: {7, 8, 9}}
	for _, x := range right() {
		for i, turn := range strays() {
			if !slices.Contains(named[x.v.Kind], i) {
				refuses(t, show(x.v)+" with a stray field", turned(x.v, turn), x.s, some(), api.ErrValue)
				for j, more := range strays()[:i] {
					if !slices.Contains(named[x.v.Kind], j) {
						refuses(t, show(x.v)+" with two stray fields", turned(turned(x.v, turn), more), x.s, some(), api.ErrValue)
					}
				}
				if x.s.Kind != api.KArray {
					s := array(integer, x.s)
					refuses(t, "an array with a stray field in Else", arr(s, turned(x.v, turn)), s, some(), api.ErrValue)
					refuses(t, "an array with a stray field in a row", arr(s, x.v, row(num(1), turned(x.v, turn)), row(num(1), x.v)), s, some(), api.ErrValue)
					s = array(x.s, integer)
					refuses(t, "an array with a stray field in a key", arr(s, num(1), row(turned(x.v, turn), num(1))), s, some(), api.ErrValue)
				}
			}
		}
	}
}

// P10.1: what is no value of any sort, or not of this one.
func TestWrongValues(t *testing.T) {
	ints := array(integer, integer)
	whole := arr(ints, num(0), row(num(1), num(2)))
	long := great(new(big.Int).Lsh(big.NewInt(1), 64*api.MaxLimbs))
	for what, x := range map[string]of{
		"nothing": {api.Value{}, boolean}, "a Kind below 0": {api.Value{Kind: -1}, boolean}, "a Kind above": {api.Value{Kind: 7}, user("U")}, "a Kind far above": {api.Value{Kind: 1<<32 + 1}, boolean},
		"a number of a limb more": {long, integer}, "that below 0": {turned(long, func(v *api.Value) { v.Int.Neg = true }), integer}, "a much longer one": {api.Value{Kind: api.VInt, Int: api.Int{Mag: append(make(api.Nat, 9000), 1)}}, integer},
		"bits of another width": {vec(4, 5), wide(5)}, "bits that are too great": {vec(4, 16), wide(4)}, "bits that are much too great": {vec(4, 0, 1), wide(4)}, "bits of the width 0": {vec(0), wide(1)}, "bits of a width below 0": {vec(-1), wide(1)},
		"an element of another sort": {elem("my sort", 0), user("U")}, "an element of none": {elem("", 0), user("U")}, "an index below 0": {elem("U", -1), user("U")}, "an index far below 0": {elem("U", math.MinInt), user("U")},
		"a tree without a name": {tree(""), data("Color")}, "a constructor of another datatype": {tree("unit"), data("Color")}, "a selector": {tree("pair_0"), data("Pair")}, "a datatype's name": {tree("Color"), data("Color")},
		"too few arguments": {tree("cons", num(1)), data("List")}, "no arguments": {tree("cons"), data("List")}, "too many arguments": {tree("nil", num(1)), data("List")}, "one more argument": {tree("cons", num(1), list(), list()), data("List")},
		"arguments in another order": {tree("cons", list(), num(1)), data("List")}, "a wrong argument within": {tree("cons", num(1), tree("cons", yes(true), list())), data("List")},
		"an array without Else": {turned(whole, func(v *api.Value) { v.Else = nil }), ints}, "an array with two of them": {turned(whole, func(v *api.Value) { v.Else = append(v.Else, num(0)) }), ints},
		"an array without its sort": {turned(whole, func(v *api.Value) { v.Sort = api.Sort{} }), ints}, "an array of another sort": {turned(whole, func(v *api.Value) { v.Sort = array(integer, boolean) }), ints},
		"an array with a wider sort": {turned(whole, func(v *api.Value) { v.Sort.Width = 1 }), ints}, "an array with a named sort": {turned(whole, func(v *api.Value) { v.Sort.Name = "A" }), ints}, "an array with a sort that holds itself": {turned(whole, func(v *api.Value) { v.Sort = endlessSort() }), ints},
		"a wrong Else": {arr(ints, yes(true)), ints}, "a wrong key": {arr(ints, num(0), row(num(1), num(1)), row(yes(true), num(2))), ints}, "a wrong value": {arr(ints, num(0), row(num(1), num(1)), row(num(2), yes(true))), ints},
		"a wrong value that does not count": {arr(ints, num(0), row(num(1), yes(true)), row(num(1), num(1))), ints}, "an empty row": {arr(ints, num(0), api.Row{}), ints}, "a long key": {arr(ints, num(0), row(long, num(1))), ints},
		"an array of arrays, of another sort within": {arr(array(boolean, ints), arr(array(integer, boolean), yes(true))), array(boolean, ints)},
		"an array from Bool, where Bool is declared": {arr(array(boolean, integer), num(1)), array(user("Bool"), integer)}, "an element, for a Bool": {elem("Bool", 0), boolean}, "a Bool, for an element": {yes(true), user("Bool")},
	} {
		refuses(t, what, x.v, x.s, some(), api.ErrValue)
	}
}

// P10.1: an array of a sort that is none of an array's; bits of the width of a sort that has none.
func TestWrongKinds(t *testing.T) {
	for _, x := range right() {
		if x.s.Kind != api.KArray {
			refuses(t, "an array of "+name(x.s), arr(x.s, x.v, row(x.v, x.v)), x.s, some(), api.ErrValue)
			refuses(t, "a tree of "+name(x.s), tree(x.s.Name, x.v), x.s, some(), api.ErrValue)
			refuses(t, "an element of "+name(x.s), elem(x.s.Name, -1), x.s, some(), api.ErrValue)
		}
		for kind := api.ValueKind(-1); kind < 9; kind++ {
			if kind != x.v.Kind {
				refuses(t, show(x.v)+" of another Kind", turned(x.v, func(v *api.Value) { v.Kind = kind }), x.s, some(), api.ErrValue)
			}
		}
	}
}

// chain is a List of so many parts, an odd number.
func chain(parts int) api.Value {
	l := tree("nil")
	for range (parts - 1) / 2 {
		l = tree("cons", num(0), l)
	}
	return l
}

// P10.1: MaxParts parts and one more, wherever they stand: ahead of what is no value.
func TestManyParts(t *testing.T) {
	const most = api.MaxParts
	ints, lists := array(integer, integer), array(integer, data("List"))
	nothing := func(n int) []api.Value { return make([]api.Value, n) }
	for _, x := range []of{
		{chain(most - 1), data("List")}, {tree("cons", num(1), chain(most-3)), data("List")}, {arr(ints, num(1), slices.Repeat([]api.Row{row(num(1), num(2))}, most/2-1)...), ints},
		{arr(lists, chain(most-1)), lists}, {arr(lists, chain(1), row(num(1), chain(most-3))), lists}, {arr(array(data("List"), integer), num(0), row(chain(most-3), num(1))), array(data("List"), integer)},
	} {
		if n := parts(x.v); n > most || n < most-1 {
			t.Fatalf("%d parts", n)
		}
		if e := value.Check(x.v, x.s, some()); e != api.OK {
			t.Errorf("Check of %d parts of %s: error %d", parts(x.v), name(x.s), e)
		}
	}
	for _, x := range []of{
		{chain(most + 1), data("List")}, {tree("cons", num(1), chain(most-1)), data("List")}, {arr(ints, num(1), slices.Repeat([]api.Row{row(num(1), num(2))}, most/2)...), ints}, {arr(lists, chain(most+1)), lists},
		{arr(lists, chain(1), row(num(1), chain(most-1))), lists}, {arr(array(data("List"), integer), num(0), row(chain(most-1), num(1))), array(data("List"), integer)},
		{tree("nil", nothing(most)...), data("List")}, {api.Value{Kind: 99, Else: nothing(most)}, boolean}, {api.Value{Rows: make([]api.Row, most/2)}, boolean}, {api.Value{Kind: api.VInt, Rows: make([]api.Row, 1), Args: nothing(most - 4), Else: nothing(2)}, integer},
		{tree("nil", nothing(10*most)...), data("List")}, {endlessValue(), data("List")}, {bushy(40), data("List")},
	} {
		refuses(t, "too many parts", x.v, x.s, some(), api.ErrMany)
	}
	for _, v := range []api.Value{tree("nil", nothing(most-1)...), {Kind: 99, Else: nothing(most - 1)}, {Rows: make([]api.Row, most/2-1)}, {Kind: api.VInt, Rows: make([]api.Row, 1), Args: nothing(most - 5), Else: nothing(2)}} {
		refuses(t, "as many parts as may be, and no value", v, data("List"), some(), api.ErrValue)
	}
}

// endlessSort holds itself.
func endlessSort() api.Sort {
	list := make([]api.Sort, 2)
	list[0], list[1] = integer, api.Sort{Kind: api.KArray, Args: list}
	return list[1]
}

// endlessValue holds itself.
func endlessValue() api.Value {
	args := make([]api.Value, 2)
	args[0], args[1] = num(1), tree("cons", args...)
	return args[1]
}

// bushy has 2 to the n leaves, in the memory of n pairs.
func bushy(n int) api.Value {
	v := tree("leaf")
	for range n {
		v = tree("node", v, v)
	}
	return v
}

// What comes ahead of all else: the signature's error, then the sort's.
func TestSortsAndSignatures(t *testing.T) {
	loop := datas(datatype("Loop", con("loop", data("Loop"))))
	for what, x := range map[string]struct {
		g    api.Sig
		want api.Errno
	}{
		"none": {datas(datatype("None")), api.ErrMany}, "name": {api.Sig{Users: []string{"|"}}, api.ErrName}, "twice": {api.Sig{Users: []string{"U", "U"}}, api.ErrTwice}, "sort": {datas(datatype("D", con("d", wide(0)))), api.ErrSort},
		"nest": {datas(datatype("Bad", con("b0"), con("b1", array(integer, data("Bad"))))), api.ErrNest}, "ground": {loop, api.ErrGround}, "endless": {datas(datatype("D", con("d", endlessSort()))), api.ErrMany},
	} {
		for _, s := range []api.Sort{boolean, {}, wide(0), array(boolean, boolean), endlessSort(), data("D")} {
			refusesAll(t, what, s, x.g, x.want)
		}
	}
	deep := boolean
	for range api.MaxSortDepth {
		deep = array(boolean, deep)
	}
	for what, x := range map[string]struct {
		s    api.Sort
		want api.Errno
	}{
		"no sort": {api.Sort{}, api.ErrSort}, "a width of 0": {wide(0), api.ErrSort}, "too wide": {wide(4097), api.ErrSort}, "not declared": {user("V"), api.ErrSort}, "a datatype as a user sort": {user("Color"), api.ErrSort}, "a user sort as a datatype": {data("U"), api.ErrSort},
		"too deep": {deep, api.ErrMany}, "endless": {endlessSort(), api.ErrMany}, "an array from nothing": {array(api.Sort{}, boolean), api.ErrSort}, "an array of one": {api.Sort{Kind: api.KArray, Args: []api.Sort{boolean}}, api.ErrSort}, "an array to what is not declared": {array(integer, data("Nothing")), api.ErrSort},
	} {
		refusesAll(t, what, x.s, some(), x.want)
	}
}

// refusesAll asks all calls but Cmp for an error that hangs on the sort and the signature alone.
func refusesAll(t *testing.T, what string, s api.Sort, g api.Sig, want api.Errno) {
	t.Helper()
	for _, v := range []api.Value{yes(true), arr(array(boolean, boolean), yes(true)), {}, endlessValue()} {
		refuses(t, what, v, s, g, want)
		if same, e := value.Same(v, yes(true), s, g); same || e != want {
			t.Errorf("%s: Same: %v, error %d; want %d", what, same, e, want)
		}
		if got, e := value.Select(v, v, s, g); e != want || !alike(got, api.Value{}) {
			t.Errorf("%s: Select: %s, error %d; want %d", what, show(got), e, want)
		}
		if got, e := value.Store(v, v, v, s, g); e != want || !alike(got, api.Value{}) {
			t.Errorf("%s: Store: %s, error %d; want %d", what, show(got), e, want)
		}
	}
	if got, e := value.Default(s, g); e != want || !alike(got, api.Value{}) {
		t.Errorf("%s: Default: %s, error %d; want %d", what, show(got), e, want)
	}
	for _, most := range []int{-1, 0, 1, 100, 1 << 40} {
		notAll(t, s, g, most)
	}
}
