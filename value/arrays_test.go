package value_test

import (
	"slices"
	"testing"

	"tribunal/api"
	"tribunal/value"
)

// isAt asks what an array has at a key.
func isAt(t *testing.T, v, key api.Value, s api.Sort, want api.Value) {
	t.Helper()
	if got, e := value.Select(v, key, s, some()); e != api.OK || !alike(got, want) {
		t.Errorf("Select(%.200s, %.200s): %.200s, error %d; want %.200s", show(v), show(key), show(got), e, show(want))
	}
}

// isStore asks for an array with one more value.
func isStore(t *testing.T, v, key, val api.Value, s api.Sort, want api.Value) {
	t.Helper()
	if got, e := value.Store(v, key, val, s, some()); e != api.OK || !alike(got, want) {
		t.Errorf("Store(%.200s, %.200s, %.200s): %.200s, error %d; want %.200s", show(v), show(key), show(val), show(got), e, show(want))
	}
}

// P10.7: Select, of rows and of Else; what is answered is in normal form.
func TestSelect(t *testing.T) {
	zero, two := api.Value{Kind: api.VInt, Int: api.Int{Neg: true, Mag: api.Nat{0}}}, api.Value{Kind: api.VInt, Int: api.Int{Mag: api.Nat{2, 0}}}
	s := array(integer, integer)
	v := arr(s, zero, row(num(1), num(5)), row(two, num(6)), row(num(2), two), row(zero, num(9)), row(num(3), num(1)), row(num(3), zero))
	isAt(t, v, num(1), s, num(5))
	isAt(t, v, num(2), s, num(2)) // the last row counts
	isAt(t, v, two, s, num(2))
	isAt(t, v, num(0), s, num(9))
	isAt(t, v, zero, s, num(9))
	isAt(t, v, num(3), s, num(0))
	isAt(t, v, num(7), s, num(0))
	isAt(t, v, num(-1), s, num(0))
	s = array(boolean, integer) // where Else and rows change places
	for _, v := range []api.Value{arr(s, num(7), row(yes(true), num(2))), arr(s, num(2), row(yes(false), num(7))), arr(s, num(9), row(yes(false), num(7)), row(yes(true), num(2)))} {
		isAt(t, v, yes(false), s, num(7))
		isAt(t, v, yes(true), s, num(2))
	}
	s = array(array(boolean, integer), array(integer, boolean))
	key, other := arr(s.Args[0], num(7), row(yes(true), num(2))), arr(s.Args[0], num(2), row(yes(false), num(7)))
	val := arr(s.Args[1], yes(true), row(num(1), yes(true)), row(num(3), yes(false)), row(num(2), yes(false)))
	want := arr(s.Args[1], yes(true), row(num(2), yes(false)), row(num(3), yes(false)))
	isAt(t, arr(s, arr(s.Args[1], yes(false)), row(key, val)), other, s, want)
	isAt(t, arr(s, val, row(key, arr(s.Args[1], yes(false)))), arr(s.Args[0], num(7)), s, want)
	isAt(t, arr(s, val, row(key, arr(s.Args[1], yes(false)))), key, s, arr(s.Args[1], yes(false)))
	s = array(data("Unit"), integer)
	isAt(t, arr(s, num(1), row(tree("unit"), num(2))), tree("unit"), s, num(2))
	isAt(t, arr(s, num(1)), tree("unit"), s, num(1))
	s = array(data("List"), user("U"))
	isAt(t, arr(s, elem("U", 3), row(list(1), elem("U", 1)), row(list(), elem("U", 2))), list(), s, elem("U", 2))
	isAt(t, arr(s, elem("U", 3), row(list(1), elem("U", 1)), row(list(), elem("U", 2))), list(1, 1), s, elem("U", 3))
}

// P10.7: Store.
func TestStore(t *testing.T) {
	s := array(integer, integer)
	isStore(t, arr(s, num(0)), num(3), num(4), s, arr(s, num(0), row(num(3), num(4))))
	isStore(t, arr(s, num(0), row(num(3), num(4))), num(3), num(5), s, arr(s, num(0), row(num(3), num(5))))
	isStore(t, arr(s, num(0), row(num(3), num(4))), num(3), num(0), s, arr(s, num(0)))
	isStore(t, arr(s, num(0), row(num(3), num(4))), num(1), num(5), s, arr(s, num(0), row(num(1), num(5)), row(num(3), num(4))))
	isStore(t, arr(s, num(0), row(num(3), num(4))), num(9), num(0), s, arr(s, num(0), row(num(3), num(4))))
	s = array(boolean, integer)
	isStore(t, arr(s, num(7)), yes(true), num(2), s, arr(s, num(2), row(yes(false), num(7))))
	isStore(t, arr(s, num(2), row(yes(false), num(7))), yes(true), num(7), s, arr(s, num(7)))
	isStore(t, arr(s, num(2)), yes(true), num(7), s, arr(s, num(2), row(yes(true), num(7))))
	s = array(data("Unit"), integer)
	isStore(t, arr(s, num(7)), tree("unit"), num(2), s, arr(s, num(2)))
	s = array(integer, data("Unit"))
	isStore(t, arr(s, tree("unit")), num(5), tree("unit"), s, arr(s, tree("unit")))
}

// noSelect asks Select and Store for an error.
func noSelect(t *testing.T, what string, v, key api.Value, s api.Sort, g api.Sig, want api.Errno) {
	t.Helper()
	if got, e := value.Select(v, key, s, g); e != want || !alike(got, api.Value{}) {
		t.Errorf("%s: Select: %s, error %d; want %d", what, show(got), e, want)
	}
	for _, val := range []api.Value{num(1), yes(true), {}, chain(api.MaxParts + 1)} {
		noStore(t, what, v, key, val, s, g, want)
	}
}

func noStore(t *testing.T, what string, v, key, val api.Value, s api.Sort, g api.Sig, want api.Errno) {
	t.Helper()
	if got, e := value.Store(v, key, val, s, g); e != want || !alike(got, api.Value{}) {
		t.Errorf("%s: Store: %s, error %d; want %d", what, show(got), e, want)
	}
}

// P10.7: the errors of Select and Store, and their order.
func TestSelectFails(t *testing.T) {
	g := some()
	s := array(data("List"), data("List"))
	fine, none, long, wrong := arr(s, list()), list(), chain(api.MaxParts+1), yes(true)
	great := arr(s, list(), row(chain(api.MaxParts+1), list()))
	for _, x := range right() {
		if x.s.Kind != api.KArray {
			for _, v := range []api.Value{x.v, fine, wrong, great, {}} {
				noSelect(t, "no array's sort", v, x.v, x.s, g, api.ErrSort)
			}
		}
	}
	for what, x := range map[string]struct {
		v, key api.Value
		want   api.Errno
	}{
		"no array": {none, none, api.ErrValue}, "nothing": {api.Value{}, none, api.ErrValue}, "an array of another sort": {arr(array(data("List"), integer), num(1)), none, api.ErrValue}, "a great array": {great, none, api.ErrMany},
		"a wrong key": {fine, wrong, api.ErrValue}, "a long key": {fine, long, api.ErrMany}, "a value as a key": {fine, fine, api.ErrValue},
		"no array, and a long key": {none, long, api.ErrValue}, "a great array, and a wrong key": {great, wrong, api.ErrMany},
	} {
		noSelect(t, what, x.v, x.key, s, g, x.want)
	}
	for what, x := range map[string]struct {
		v, key, val api.Value
		want        api.Errno
	}{
		"a wrong value": {fine, none, wrong, api.ErrValue}, "a long value": {fine, none, long, api.ErrMany}, "a long key, and a wrong value": {fine, long, wrong, api.ErrMany}, "a wrong key, and a long value": {fine, wrong, long, api.ErrValue},
		"no array, and a long value": {wrong, none, long, api.ErrValue}, "a great array, and a wrong value": {great, none, wrong, api.ErrMany},
	} {
		noStore(t, what, x.v, x.key, x.val, s, g, x.want)
	}
}

// P10.7: forms that unfold to too many parts: of the array, the key, the value, and of what is stored.
func TestGreatStores(t *testing.T) {
	g := datas(append(one("W", api.MaxParts-10), datatype("D", con("a"), con("b"), con("c", data("W"))))...)
	ints := array(data("D"), integer)
	s := array(ints, ints)
	one := arr(ints, num(1))
	unfolds := arr(ints, num(7), row(tree("a"), num(1)), row(tree("b"), num(1)))
	fits, e := value.Norm(unfolds, ints, g)
	if e != api.OK || parts(fits) != api.MaxParts-6 {
		t.Fatalf("%d parts, error %d", parts(fits), e)
	}
	for _, x := range []struct {
		v, key api.Value
		want   api.Errno
	}{{arr(s, one), one, api.OK}, {arr(s, one), unfolds, api.OK}, {arr(s, unfolds), one, api.OK}, {arr(s, unfolds, row(unfolds, one)), one, api.ErrMany}, {arr(s, unfolds), yes(true), api.ErrValue}} {
		got, e := value.Select(x.v, x.key, s, g)
		if e != x.want || x.want != api.OK && !alike(got, api.Value{}) {
			t.Errorf("Select: %s, error %d; want %d", show(got), e, x.want)
		}
		if x.want != api.OK {
			noStore(t, "an array, or a key, that is refused", x.v, x.key, one, s, g, x.want)
		}
	}
	noStore(t, "a key and a value that unfold", arr(s, one), unfolds, unfolds, s, g, api.ErrMany)
	if got, e := value.Store(arr(s, one), unfolds, arr(ints, num(2)), s, g); e != api.OK || !alike(got, arr(s, one, row(fits, arr(ints, num(2))))) {
		t.Errorf("Store: error %d", e)
	}
	if got, e := value.Store(arr(s, one), unfolds, one, s, g); e != api.OK || !alike(got, arr(s, one)) { // what is there
		t.Errorf("Store of what is there: error %d", e)
	}
}

// P10.7: MaxParts parts with the row, and one more, whatever the normal form.
func TestLongStores(t *testing.T) {
	s := array(integer, integer)
	for _, n := range []int{api.MaxParts/2 - 2, api.MaxParts/2 - 1} {
		v := arr(s, num(0), slices.Repeat([]api.Row{row(num(1), num(2))}, n)...)
		isAt(t, v, num(1), s, num(2))
		if 2+2*n+2 <= api.MaxParts {
			isStore(t, v, num(1), num(0), s, arr(s, num(0)))
		} else {
			noStore(t, "an array with a row too many", v, num(1), num(0), s, some(), api.ErrMany)
		}
	}
}
