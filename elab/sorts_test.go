package elab_test

import (
	"strconv"
	"strings"
	"testing"

	"tribunal/api"
)

// P8.4: sorts of each form.
func TestSorts(t *testing.T) {
	e := env(t)
	for s, want := range map[string]api.Sort{
		"Bool": boolean, "|Bool|": boolean, "Int": integer, "|Int|": integer,
		"(_ BitVec 1)": wide(1), "(_ |BitVec| 8)": wide(8), "(_ BitVec 4096)": wide(4096),
		"(Array Int Bool)": array(integer, boolean), "(|Array| |Int| |Bool|)": array(integer, boolean),
		"U": user("U"), "|my sort|": user("my sort"), "List": data("List"), "|Color|": data("Color"),
		"Ints": array(integer, integer), "(Ints)": array(integer, integer),
		"(Pair U)": array(user("U"), user("U")), "(|Pair| Ints)": array(array(integer, integer), array(integer, integer)),
		"(Row Bool List)": array(integer, array(boolean, data("List"))),
		"(Array (_ BitVec 3) (Array List (Row U Bool)))": array(wide(3), array(data("List"), array(integer, array(user("U"), boolean)))),
		"(Pair (_ BitVec 4))":                            array(wide(4), wide(4)),
		"(Pair (Pair (Pair Bool)))":                      array(array(array(boolean, boolean), array(boolean, boolean)), array(array(boolean, boolean), array(boolean, boolean))),
	} {
		isSort(t, e, s, want)
		isSort(t, e, s, want, "Other", "other")
	}
}

// P8.4: each error of sorts, with its node.
func TestFaultsOfSorts(t *testing.T) {
	e := env(t)
	for _, c := range []struct {
		s, node string
		want    api.Errno
	}{
		{"5", "5", api.ErrForm}, {"1.5", "1.5", api.ErrForm}, {"#b1", "#b1", api.ErrForm}, {"#x1", "#x1", api.ErrForm}, {`"Int"`, `"Int"`, api.ErrForm}, {":Int", ":Int", api.ErrForm},
		{"()", "()", api.ErrForm}, {"(5 Int)", "(5 Int)", api.ErrForm}, {"((Array) Int)", "((Array) Int)", api.ErrForm}, {"((_ BitVec 8) Int)", "((_ BitVec 8) Int)", api.ErrForm}, {"(() Nobody)", "(() Nobody)", api.ErrForm},
		{"(_ BitVec)", "(_ BitVec)", api.ErrForm}, {"(_ BitVec 8 8)", "(_ BitVec 8 8)", api.ErrForm}, {"(_ BitVec x)", "(_ BitVec x)", api.ErrForm}, {"(_ BitVec #b1)", "(_ BitVec #b1)", api.ErrForm}, {"(_ BitVec (8))", "(_ BitVec (8))", api.ErrForm}, {"(_ BitVec -1)", "(_ BitVec -1)", api.ErrForm},
		{"(_ Int 8)", "(_ Int 8)", api.ErrForm}, {"(_ 8 BitVec)", "(_ 8 BitVec)", api.ErrForm}, {`(_ "BitVec" 8)`, `(_ "BitVec" 8)`, api.ErrForm}, {"(_ :BitVec 8)", "(_ :BitVec 8)", api.ErrForm}, {"(_)", "(_)", api.ErrForm}, {"(_ Nobody 8)", "(_ Nobody 8)", api.ErrForm}, {"(_ bitvec 8)", "(_ bitvec 8)", api.ErrForm},
		{"BitVec", "BitVec", api.ErrForm}, {"(BitVec)", "(BitVec)", api.ErrForm}, {"(BitVec 8)", "8", api.ErrForm}, {"(BitVec Int)", "(BitVec Int)", api.ErrForm}, {"(Int)", "(Int)", api.ErrForm}, {"(U)", "(U)", api.ErrForm}, {"(List)", "(List)", api.ErrForm},
		{"Nobody", "Nobody", api.ErrUnbound}, {"bool", "bool", api.ErrUnbound}, {"x", "x", api.ErrUnbound}, {"nil", "nil", api.ErrUnbound}, {"_", "_", api.ErrUnbound}, {"let", "let", api.ErrUnbound}, {"||", "||", api.ErrUnbound}, {"|a\nb|", "|a\nb|", api.ErrUnbound},
		{"(Nobody Int)", "(Nobody Int)", api.ErrUnbound}, {"(Nobody Other)", "Other", api.ErrUnbound}, {"(Nobody)", "(Nobody)", api.ErrUnbound}, {"(|_| Int Bool)", "(|_| Int Bool)", api.ErrUnbound}, {"(|_| BitVec 8)", "BitVec", api.ErrForm}, {"(not Int)", "(not Int)", api.ErrUnbound}, {"(as x Int)", "x", api.ErrUnbound}, {"(Nobody (Array Int))", "(Array Int)", api.ErrArgs},
		{"Array", "Array", api.ErrArgs}, {"(Array)", "(Array)", api.ErrArgs}, {"(Array Int)", "(Array Int)", api.ErrArgs}, {"(Array Int Int Int)", "(Array Int Int Int)", api.ErrArgs},
		{"Pair", "Pair", api.ErrArgs}, {"(Pair)", "(Pair)", api.ErrArgs}, {"(Pair Int Int)", "(Pair Int Int)", api.ErrArgs}, {"(Row Int)", "(Row Int)", api.ErrArgs}, {"(Ints Int)", "(Ints Int)", api.ErrArgs},
		{"(Int Bool)", "(Int Bool)", api.ErrArgs}, {"(U Int)", "(U Int)", api.ErrArgs}, {"(List Int)", "(List Int)", api.ErrArgs},
		{"(Array Int Pair)", "Pair", api.ErrArgs}, {"(Array Nobody)", "Nobody", api.ErrUnbound}, {"(Int 5)", "5", api.ErrForm}, {"(Array (Array Int) Nobody)", "(Array Int)", api.ErrArgs}, {"(Array Nobody (Array Int))", "Nobody", api.ErrUnbound}, {"(Pair 5 Nobody)", "5", api.ErrForm},
		{"(_ BitVec 0)", "(_ BitVec 0)", api.ErrSort}, {"(_ BitVec 4097)", "(_ BitVec 4097)", api.ErrSort}, {"(_ BitVec 1000000000)", "(_ BitVec 1000000000)", api.ErrSort}, {"(_ BitVec 1000000001)", "(_ BitVec 1000000001)", api.ErrSort},
		{"(_ BitVec 18446744073709551617)", "(_ BitVec 18446744073709551617)", api.ErrSort}, {"(_ BitVec 1" + strings.Repeat("0", 5000) + ")", "(_ BitVec 1" + strings.Repeat("0", 5000) + ")", api.ErrSort},
		{"(Array Int (Array (_ BitVec 0) Nobody))", "(_ BitVec 0)", api.ErrSort}, {"(Array (_ BitVec 0))", "(_ BitVec 0)", api.ErrSort},
	} {
		noSort(t, e, c.s, c.node, c.want)
		noSort(t, e, c.s, c.node, c.want, "Somebody")
	}
}

// P8.4: sorts as deep and with as many parts as may be, and one more.
func TestGreatSorts(t *testing.T) {
	e := env(t)
	nested := func(n int) string { return strings.Repeat("(Array Int ", n) + "Bool" + strings.Repeat(")", n) }
	s := boolean
	for range api.MaxSortDepth - 1 {
		s = array(integer, s)
	}
	isSort(t, e, nested(api.MaxSortDepth-1), s)
	noSort(t, e, nested(api.MaxSortDepth), nested(api.MaxSortDepth), api.ErrMany)
	noSort(t, e, nested(api.MaxSortDepth+5), nested(api.MaxSortDepth), api.ErrMany)
	pairs := func(n int) string { return strings.Repeat("(Pair ", n) + "U" + strings.Repeat(")", n) }
	s = user("U")
	for range 7 {
		s = array(s, s)
	}
	isSort(t, e, pairs(7), s)
	noSort(t, e, pairs(8), pairs(8), api.ErrMany)
	noSort(t, e, "(Array Nobody "+pairs(9)+")", "Nobody", api.ErrUnbound)
	noSort(t, e, "(Array "+pairs(9)+" Nobody)", pairs(8), api.ErrMany)
	noSort(t, e, "(Row "+pairs(6)+" "+pairs(7)+")", "(Row "+pairs(6)+" "+pairs(7)+")", api.ErrMany)
}

// P8.4: the names that SortAmong is given stand for datatypes, ahead of all else.
func TestSortAmong(t *testing.T) {
	e := env(t)
	isSort(t, e, "Tree", data("Tree"), "Tree")
	isSort(t, e, "(Array |a tree| (Pair Tree))", array(data("a tree"), array(data("Tree"), data("Tree"))), "Tree", "a tree", "Tree")
	for _, name := range []string{"Bool", "Int", "BitVec", "Array", "U", "List", "Pair", "Ints", "_", "let", "nil"} {
		isSort(t, e, name, data(name), "Tree", name)
		if name != "_" {
			noSort(t, e, "("+name+" Int)", "("+name+" Int)", api.ErrArgs, name, "Int")
		}
	}
	isSort(t, e, "(_ BitVec 8)", wide(8), "BitVec", "_", "8")
	isSort(t, e, "(Pair Int)", array(data("Int"), data("Int")), "Int", "Array", "a")
	isSort(t, e, "(Array Ints a)", array(array(integer, integer), data("a")), "Int", "a")
	noSort(t, e, "(Array Int Int)", "(Array Int Int)", api.ErrArgs, "Array")
	noSort(t, e, "(Array Tree tree)", "tree", api.ErrUnbound, "Tree")
	noSort(t, e, "(Tree)", "(Tree)", api.ErrForm, "Tree")
	noSort(t, e, "Tree", "Tree", api.ErrUnbound)
	noSort(t, e, "Tree", "Tree", api.ErrUnbound, "")
	noSort(t, e, "||", "||", api.ErrSort, "")
	noSort(t, e, "(Array Int @x)", "@x", api.ErrSort, "@x")
	noSort(t, e, "@x", "@x", api.ErrUnbound)
	var names []string
	for i := range 3 * api.MaxSymbols {
		names = append(names, "T"+strconv.Itoa(i))
	}
	isSort(t, e, "(Array T0 T12287)", array(data("T0"), data("T12287")), names...)
	isSort(t, e, "(Array U List)", array(user("U"), data("List")))
}

// P8.4: a table that is not sound, with root's number.
func TestUnsoundSorts(t *testing.T) {
	e := env(t)
	for _, c := range unsound() {
		for range 2 {
			if s, at, bad := e.Sort(c.l, c.root); s.Kind != 0 || at != c.root || bad != api.ErrShape {
				t.Errorf("Sort of %d in %+v: %+v, %d, error %d", c.root, c.l, s, at, bad)
			}
			if s, at, bad := e.SortAmong([]string{"not"}, c.l, c.root); s.Kind != 0 || at != c.root || bad != api.ErrShape {
				t.Errorf("SortAmong of %d in %+v: %+v, %d, error %d", c.root, c.l, s, at, bad)
			}
			if i, at, bad := e.Term(tableOf(t, e), c.l, c.root); i != 0 || at != c.root || bad != api.ErrShape {
				t.Errorf("Term of %d in %+v: %d, %d, error %d", c.root, c.l, i, at, bad)
			}
		}
	}
}
