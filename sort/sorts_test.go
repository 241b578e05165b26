package sort_test

import (
	"strings"
	"testing"

	"tribunal/api"
	"tribunal/sort"
)

// P4.2: how the shapes are written.
func TestTexts(t *testing.T) {
	isText(t, boolean, "Bool")
	isText(t, integer, "Int")
	isText(t, wide(1), "(_ BitVec 1)")
	isText(t, wide(8), "(_ BitVec 8)")
	isText(t, wide(4096), "(_ BitVec 4096)")
	isText(t, user("U"), "U")
	isText(t, user("my sort"), "|my sort|")
	isText(t, data("let"), "|let|")
	isText(t, array(integer, wide(8)), "(Array Int (_ BitVec 8))")
	isText(t, array(array(boolean, data("D")), array(integer, user("a b"))), "(Array (Array Bool D) (Array Int |a b|))")
	isText(t, api.Sort{Kind: api.KBool, Args: []api.Sort{}}, "Bool")
}

// P4.2: what has none of the shapes, alone and as a part.
func TestShapes(t *testing.T) {
	one, two := []api.Sort{integer}, []api.Sort{integer, integer}
	for what, s := range map[string]api.Sort{
		"no kind":                {},
		"a kind below":           {Kind: -1},
		"a kind above":           {Kind: 7},
		"Bool with a width":      {Kind: api.KBool, Width: 1},
		"Bool with a name":       {Kind: api.KBool, Name: "Bool"},
		"Bool with args":         {Kind: api.KBool, Args: one},
		"Int with a width":       {Kind: api.KInt, Width: -1},
		"Int with a name":        {Kind: api.KInt, Name: "a"},
		"Int with args":          {Kind: api.KInt, Args: two},
		"no bits":                {Kind: api.KBits},
		"bits below 0":           {Kind: api.KBits, Width: -8},
		"too many bits":          {Kind: api.KBits, Width: 4097},
		"far too many bits":      {Kind: api.KBits, Width: int(^uint(0) >> 1)},
		"bits with a name":       {Kind: api.KBits, Width: 8, Name: "a"},
		"bits with args":         {Kind: api.KBits, Width: 8, Args: one},
		"an array of none":       {Kind: api.KArray},
		"an array of one":        {Kind: api.KArray, Args: one},
		"an array of three":      {Kind: api.KArray, Args: []api.Sort{integer, integer, integer}},
		"an array with a width":  {Kind: api.KArray, Width: 2, Args: two},
		"an array with a name":   {Kind: api.KArray, Name: "a", Args: two},
		"a user without a name":  {Kind: api.KUser},
		"a user with a width":    {Kind: api.KUser, Name: "U", Width: 1},
		"a user with args":       {Kind: api.KUser, Name: "U", Args: one},
		"data without a name":    {Kind: api.KData},
		"data with a width":      {Kind: api.KData, Name: "Pair", Width: 1},
		"data with args":         {Kind: api.KData, Name: "Pair", Args: two},
		"data with another name": {Kind: api.KData, Name: "a|b"},
	} {
		noText(t, what, s, api.ErrSort)
		noText(t, what+", to it", array(integer, s), api.ErrSort)
		noText(t, what+", from it", array(s, integer), api.ErrSort)
		noText(t, what+", deep", deep(14, array(s, boolean)), api.ErrSort)
	}
}

// P4.2: as many parts and as deep as may be, and one more.
func TestGreatSorts(t *testing.T) {
	most := full(255, boolean)
	if n := count(most); n != 255 {
		t.Fatalf("%d parts", n)
	}
	if text, e := sort.Text(most); e != api.OK || strings.Count(text, "Bool") != 128 || strings.Count(text, "(Array ") != 127 {
		t.Errorf("255 parts: error %d, %q", e, text)
	}
	noText(t, "257 parts", full(257, boolean), api.ErrMany)
	noText(t, "259 parts", full(259, boolean), api.ErrMany)
	odd := api.Sort{Kind: api.KBool, Args: make([]api.Sort, 255)}
	noText(t, "256 parts of no shape", odd, api.ErrSort)
	odd.Args = make([]api.Sort, 256)
	noText(t, "257 parts of no shape", odd, api.ErrMany)
	isText(t, deep(16, boolean), strings.Repeat("(Array Int ", 15)+"Bool"+strings.Repeat(")", 15))
	noText(t, "a sort 17 deep", deep(17, boolean), api.ErrMany)
	noText(t, "a sort 17 deep with a fault", deep(17, wide(0)), api.ErrMany)
	noText(t, "a sort 16 deep with a fault", deep(16, wide(0)), api.ErrSort)
	noText(t, "257 parts with faults", full(257, wide(0)), api.ErrMany)
	noText(t, "255 parts with faults", full(255, wide(0)), api.ErrSort)
	noText(t, "a fault ahead of what is too deep", array(wide(0), deep(16, boolean)), api.ErrMany)
	noText(t, "a fault ahead of too many", api.Sort{Args: []api.Sort{{Args: make([]api.Sort, 300)}}}, api.ErrMany)
	noText(t, "a sort that holds itself", endless(), api.ErrMany)
	noText(t, "a million of parts", bushy(20, boolean), api.ErrMany)
	noText(t, "a very deep sort", deep(65536, boolean), api.ErrMany)
}

// deepest from the left: depth counts whichever argument holds it.
func TestDepthOnTheLeft(t *testing.T) {
	s := boolean
	for range 15 {
		s = array(s, integer)
	}
	if _, e := sort.Text(s); e != api.OK {
		t.Errorf("16 deep: error %d", e)
	}
	noText(t, "17 deep, on the left", array(s, integer), api.ErrMany)
}

// samples are sorts of which no two are the same; some have no shape.
func samples() []api.Sort {
	return []api.Sort{
		{}, boolean, integer, wide(1), wide(8), wide(9), user("U"), data("U"), user("V"), user("Bool"), {Kind: api.KBool, Name: "Bool"}, {Kind: api.KBool, Width: 1}, {Kind: 9}, {Kind: 9, Width: 8},
		array(integer, boolean), array(boolean, integer), array(integer, array(integer, boolean)), array(array(integer, boolean), integer), array(integer, user("U")), array(integer, data("U")),
		{Kind: api.KArray}, {Kind: api.KArray, Args: []api.Sort{integer}}, {Kind: api.KArray, Args: []api.Sort{integer, boolean, boolean}}, {Kind: api.KInt, Args: []api.Sort{integer, boolean}},
		{Kind: api.KArray, Width: 1, Args: []api.Sort{integer, boolean}}, {Kind: api.KArray, Name: "a", Args: []api.Sort{integer, boolean}}, deep(16, boolean), deep(17, boolean), deep(17, integer), full(257, boolean), full(257, integer),
	}
}

// copied is the same sort in other memory.
func copied(s api.Sort) api.Sort {
	if s.Args == nil {
		return s
	}
	args := make([]api.Sort, 0, len(s.Args)+3)
	for _, a := range s.Args {
		args = append(args, copied(a))
	}
	s.Args = args
	return s
}

// P4.2: Same, field by field.
func TestSame(t *testing.T) {
	list := samples()
	for i, a := range list {
		for j, b := range list {
			if sort.Same(a, b) != (i == j) || sort.Same(a, copied(b)) != (i == j) || sort.Same(copied(a), b) != (i == j) {
				t.Errorf("Same(%+v, %+v): %v", a, b, i != j)
			}
		}
	}
	if !sort.Same(boolean, api.Sort{Kind: api.KBool, Args: []api.Sort{}}) {
		t.Error("no Args and an empty list of them")
	}
}

// Same ends on sorts that share their parts many times over, hold themselves, or are as deep as may be.
func TestSameOfGreatSorts(t *testing.T) {
	if !sort.Same(bushy(100, boolean), bushy(100, boolean)) || sort.Same(bushy(100, boolean), bushy(100, integer)) || sort.Same(bushy(100, boolean), bushy(99, boolean)) {
		t.Error("shared parts")
	}
	x := endless()
	if !sort.Same(x, x) || !sort.Same(x, endless()) || sort.Same(x, deep(1000, boolean)) {
		t.Error("sorts that hold themselves")
	}
	if !sort.Same(deep(65536, boolean), deep(65536, boolean)) || sort.Same(deep(65536, boolean), deep(65536, integer)) {
		t.Error("deep sorts")
	}
	if !sort.Same(full(3001, boolean), full(3001, boolean)) || sort.Same(full(3001, boolean), full(3001, integer)) {
		t.Error("many parts")
	}
	list := make([]api.Sort, 1000)
	a, b := api.Sort{Args: list}, api.Sort{Args: make([]api.Sort, 1000)}
	b.Args[999] = integer
	if sort.Same(a, b) || !sort.Same(a, api.Sort{Args: make([]api.Sort, 1000)}) || sort.Same(a, api.Sort{Args: list[:999]}) {
		t.Error("many arguments")
	}
	c := make([]api.Sort, 4)
	c[3] = integer
	twice := func(x []api.Sort) api.Sort {
		return deep(400, api.Sort{Args: []api.Sort{{Args: x[:4]}, {Args: x[:3]}}})
	}
	if sort.Same(twice(list), twice(c)) || !sort.Same(twice(list), twice(make([]api.Sort, 4))) {
		t.Error("lists of one beginning, of two lengths")
	}
}

// P4.2: Check asks for the declarations of a sort's names, by their kind.
func TestCheck(t *testing.T) {
	g := some()
	for _, s := range []api.Sort{boolean, integer, wide(5), user("U"), user("my sort"), data("List"), data("Still"), array(data("Pair"), array(user("U"), data("Tree"))), full(255, data("Color")), deep(16, user("U"))} {
		if e := sort.Check(s, g); e != api.OK {
			t.Errorf("Check(%+v): error %d", s, e)
		}
	}
	for _, s := range []api.Sort{user("V"), user("u"), data("U"), user("List"), data("red"), user("f"), data("pair"), user("Bool"), data("Lis"), user("my"), array(user("V"), integer), array(integer, user("V")), deep(16, data("U")), full(255, user("List"))} {
		if e := sort.Check(s, g); e != api.ErrSort {
			t.Errorf("Check(%+v): error %d", s, e)
		}
		if sort.Check(s, api.Sig{}) != api.ErrSort {
			t.Errorf("Check(%+v) where nothing is declared", s)
		}
	}
	if e := sort.Check(deep(17, user("V")), g); e != api.ErrMany {
		t.Errorf("too deep, not declared: error %d", e)
	}
}

// P4.2: g's declarations themselves are not looked at.
func TestCheckByAnySignature(t *testing.T) {
	many := users(make([]string, 5000)...)
	for what, g := range map[string]api.Sig{
		"names that are none":      users("U", "a|b", ""),
		"names that stand twice":   both(users("U", "U"), datas(datatype("U", con("u")))),
		"a datatype without cons":  both(users("U"), datas(datatype("D"))),
		"a datatype like no other": both(users("U"), datas(datatype("D", con("d", wide(0), user("X"), data("D"))))),
		"too many":                 both(many, users("U")),
	} {
		if e := sort.Check(array(user("U"), integer), g); e != api.OK {
			t.Errorf("%s: error %d", what, e)
		}
		if e := sort.Check(user("X"), g); e != api.ErrSort {
			t.Errorf("%s: error %d of what isn't declared", what, e)
		}
		if sort.CheckSig(g) == api.OK {
			t.Errorf("%s: CheckSig takes it", what)
		}
	}
	g := both(users("U", "U"), datas(datatype("U")))
	if sort.Check(data("U"), g) != api.OK || sort.Check(user("U"), g) != api.OK {
		t.Error("a name that is a user's and a datatype's")
	}
}

// P4.6: texts of sorts without datatypes are the same just if the sorts are.
func TestTextsTellSorts(t *testing.T) {
	d := dice{46}
	names := []string{"U", "V", "my sort", "Array", "_", "BitVec", "let", "(Array", "0", "Int Bool", "u"}
	var grow func(depth int) api.Sort
	grow = func(depth int) api.Sort {
		switch n := d.below(6); {
		case n < 2 && depth > 0:
			return array(grow(depth-1), grow(depth-1))
		case n == 2:
			return wide(1 + d.below(3))
		case n == 3:
			return user(pick(&d, names))
		case n == 4:
			return boolean
		}
		return integer
	}
	seen := map[string]api.Sort{}
	for range 20000 {
		s := grow(3)
		text, e := sort.Text(s)
		if e != api.OK {
			t.Fatalf("Text(%+v): error %d", s, e)
		}
		if old, ok := seen[text]; ok && !sort.Same(old, s) {
			t.Errorf("%s is the text of %+v and of %+v", text, old, s)
		}
		seen[text] = s
	}
	texts := map[string]int{}
	for text, s := range seen {
		for i, other := range samples() {
			if sort.Same(s, other) {
				texts[text] = i
			}
		}
	}
	if len(seen) < 1000 || len(texts) < 5 {
		t.Errorf("%d texts, %d of them of samples", len(seen), len(texts))
	}
}
