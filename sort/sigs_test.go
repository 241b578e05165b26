package sort_test

import (
	"fmt"
	"slices"
	"testing"

	"tribunal/api"
	"tribunal/sort"
)

// numbered are so many names.
func numbered(ahead string, n int) []string {
	list := make([]string, n)
	for i := range list {
		list[i] = fmt.Sprint(ahead, i)
	}
	return list
}

func units(n int) api.Sig {
	var g api.Sig
	for _, name := range numbered("D", n) {
		g.Datas = append(g.Datas, datatype(name, con("c"+name)))
	}
	return g
}

func constants(n int) api.Sig {
	var g api.Sig
	for _, name := range numbered("f", n) {
		g.Funs = append(g.Funs, fun(name, boolean))
	}
	return g
}

// cons is a datatype with so many constructors, each with so many selectors.
func cons(name string, n, sels int) api.Datatype {
	d := datatype(name)
	for i := range n {
		d.Cons = append(d.Cons, con(fmt.Sprint(name, "-", i), slices.Repeat([]api.Sort{boolean}, sels)...))
	}
	return d
}

func args(n int) []api.Sort { return slices.Repeat([]api.Sort{integer}, n) }

// P4.3: what may be declared.
func TestSigsThatMayBe(t *testing.T) {
	isSig(t, "nothing", api.Sig{}, api.OK)
	isSig(t, "the examples", some(), api.OK)
	isSig(t, "users", users("U", "V", "a b", "let", letters(200)), api.OK)
	isSig(t, "sorts and symbols of one name", both(users("U", "f", "u"), both(datas(datatype("D", con("U"), con("D"))), funs(fun("f", integer)))), api.OK)
	isSig(t, "sorts named as those that are there", both(users("Bool"), datas(datatype("Int", con("Bool", user("Bool"))))), api.OK)
	isSig(t, "a datatype of 64 constructors", datas(cons("D", 64, 0)), api.OK)
	isSig(t, "a constructor of 64 selectors", datas(cons("D", 1, 64)), api.OK)
	isSig(t, "a function of 64 arguments", funs(fun("f", integer, args(64)...)), api.OK)
	isSig(t, "4096 users", users(numbered("U", 4096)...), api.OK)
	isSig(t, "4096 functions", constants(4096), api.OK)
	isSig(t, "2048 datatypes", units(2048), api.OK)
}

// P4.3: ErrMany.
func TestTooMany(t *testing.T) {
	isSig(t, "no constructor", datas(datatype("D")), api.ErrMany)
	isSig(t, "no constructor, at the end", both(some(), datas(datatype("D"))), api.ErrMany)
	isSig(t, "65 constructors", datas(cons("D", 65, 0)), api.ErrMany)
	isSig(t, "65 selectors", datas(cons("D", 1, 65)), api.ErrMany)
	isSig(t, "65 selectors, of the last constructor", datas(datatype("E", con("e")), datatype("D", con("d"), con("c", args(65)...))), api.ErrMany)
	isSig(t, "65 arguments", funs(fun("f", integer, args(65)...)), api.ErrMany)
	isSig(t, "65 arguments, of the last function", both(some(), funs(fun("g", integer, args(65)...))), api.ErrMany)
	isSig(t, "4097 users", users(numbered("U", 4097)...), api.ErrMany)
	isSig(t, "4097 functions", constants(4097), api.ErrMany)
	isSig(t, "2049 datatypes", units(2049), api.ErrMany)
	most := both(both(units(1), constants(9)), users(numbered("U", 5)...)) // 16
	for i := range 62 {
		most.Datas = append(most.Datas, cons(fmt.Sprint("M", i), 1, 63)) // 65 each
	}
	most.Datas = append(most.Datas, cons("L", 1, 48)) // 50: 4096 in all
	isSig(t, "4096 of all", most, api.OK)
	isSig(t, "one user more", both(most, users("more")), api.ErrMany)
	isSig(t, "one function more", both(most, funs(fun("more", boolean))), api.ErrMany)
	for what, last := range map[string]api.Datatype{"one selector more": cons("L", 1, 49), "one constructor more": datatype("L", con("more"), con("L", slices.Repeat([]api.Sort{boolean}, 48)...))} {
		more := most
		more.Datas = slices.Clone(most.Datas)
		more.Datas[len(more.Datas)-1] = last
		isSig(t, what, more, api.ErrMany)
	}
	less := most
	less.Users = most.Users[1:]
	isSig(t, "one user less", less, api.OK)
	isSig(t, "a datatype more", both(less, datas(datatype("E", con("e")))), api.ErrMany)
}

// P4.3: ErrName, of each kind of names.
func TestNoNames(t *testing.T) {
	for _, s := range []string{"", "@a", ".a", "a|b", "a\\", "é", "a\n", letters(201)} {
		isSig(t, "a user", users("U", s), api.ErrName)
		isSig(t, "a datatype", datas(datatype("E", con("e")), datatype(s, con("d"))), api.ErrName)
		isSig(t, "a constructor", datas(datatype("D", con("d"), con(s))), api.ErrName)
		isSig(t, "a selector", datas(datatype("D", api.Con{Name: "d", Sels: []api.Sel{{Name: "s", Sort: integer}, {Name: s, Sort: integer}}})), api.ErrName)
		isSig(t, "a function", funs(fun("f", integer), fun(s, integer)), api.ErrName)
	}
}

// P4.3: ErrTwice, of each two kinds of names that may not be one.
func TestTwice(t *testing.T) {
	sel := func(name string) api.Datatype {
		return datatype("S", api.Con{Name: "s", Sels: []api.Sel{{Name: "s0", Sort: integer}, {Name: name, Sort: integer}}})
	}
	isSig(t, "two users", users("U", "V", "U"), api.ErrTwice)
	isSig(t, "a user and a datatype", both(users("U"), datas(datatype("U", con("u")))), api.ErrTwice)
	isSig(t, "two datatypes", datas(datatype("D", con("d")), datatype("D", con("e"))), api.ErrTwice)
	isSig(t, "two constructors of one", datas(datatype("D", con("d"), con("d"))), api.ErrTwice)
	isSig(t, "two constructors of two", datas(datatype("D", con("d")), datatype("E", con("d"))), api.ErrTwice)
	isSig(t, "two selectors of one", datas(sel("s0")), api.ErrTwice)
	isSig(t, "two selectors of two", datas(sel("x"), datatype("D", api.Con{Name: "d", Sels: []api.Sel{{Name: "x", Sort: integer}}})), api.ErrTwice)
	isSig(t, "a constructor and its selector", datas(sel("s")), api.ErrTwice)
	isSig(t, "a constructor and another's selector", datas(datatype("D", con("x")), sel("x")), api.ErrTwice)
	isSig(t, "two functions", funs(fun("f", integer), fun("g", integer), fun("f", boolean, integer)), api.ErrTwice)
	isSig(t, "a function and a constructor", both(datas(datatype("D", con("x"))), constants(1)), api.OK)
	isSig(t, "a function and the constructor of its name", both(datas(datatype("D", con("f0"))), constants(1)), api.ErrTwice)
	isSig(t, "a function and a selector", both(datas(sel("f0")), constants(1)), api.ErrTwice)
}

// P4.3: Check's error of the first sort, as they stand in order.
func TestFirstSort(t *testing.T) {
	bad, great := user("nobody"), deep(17, boolean)
	for what, s := range map[string]api.Sort{"no declaration": data("nothing"), "a user as a datatype": data("U"), "a datatype as a user": user("D"), "no shape": wide(0), "in an array": array(integer, bad)} {
		g := both(users("U"), datas(datatype("D", con("d"))))
		isSig(t, what+": a selector", both(g, datas(datatype("E", con("e", integer, s)))), api.ErrSort)
		isSig(t, what+": an argument", both(g, funs(fun("f", integer, integer, s))), api.ErrSort)
		isSig(t, what+": a value", both(g, funs(fun("f", s))), api.ErrSort)
	}
	isSig(t, "a sort that is too great: a selector", datas(datatype("E", con("e", great))), api.ErrMany)
	isSig(t, "a sort that is too great: an argument", funs(fun("f", integer, great)), api.ErrMany)
	isSig(t, "a sort that is too great: a value", funs(fun("f", full(257, boolean))), api.ErrMany)
	isSig(t, "a sort that holds itself", funs(fun("f", endless())), api.ErrMany)
	for _, c := range []struct {
		one, two api.Sort
		want     api.Errno
	}{{bad, great, api.ErrSort}, {great, bad, api.ErrMany}, {integer, bad, api.ErrSort}, {integer, great, api.ErrMany}} {
		isSig(t, "two selectors", datas(datatype("D", con("d", c.one, c.two))), c.want)
		isSig(t, "two constructors", datas(datatype("D", con("d", c.one), con("e", c.two))), c.want)
		isSig(t, "two datatypes", datas(datatype("D", con("d", c.one)), datatype("E", con("e", c.two))), c.want)
		isSig(t, "a datatype and a function", both(funs(fun("f", c.two)), datas(datatype("D", con("d", c.one)))), c.want)
		isSig(t, "two arguments", funs(fun("f", boolean, c.one, c.two)), c.want)
		isSig(t, "an argument and a value", funs(fun("f", c.two, c.one)), c.want)
		isSig(t, "two functions", funs(fun("f", c.one, integer), fun("g", integer, c.two)), c.want)
	}
}

func TestSortsBothWays(t *testing.T) {
	// A sort may be declared behind what names it.
	isSig(t, "a datatype ahead of what it names", datas(datatype("A", con("a", data("B"))), datatype("B", con("b"))), api.OK)
}

// P4.3: ErrNest.
func TestNested(t *testing.T) {
	to := func(name string) api.Sort { return array(integer, data(name)) }
	bad := datatype("Bad", con("bud"), con("twig", to("Bad")))
	isSig(t, "Bad", datas(bad), api.ErrNest)
	isSig(t, "Bad among others", both(some(), datas(bad)), api.ErrNest)
	isSig(t, "from itself", datas(datatype("D", con("d"), con("e", array(data("D"), integer)))), api.ErrNest)
	isSig(t, "from itself to one value", both(some(), datas(datatype("D", con("d"), con("e", array(data("D"), data("Unit")))))), api.ErrNest)
	isSig(t, "deep", datas(datatype("D", con("d"), con("e", integer, deep(16, data("D"))))), api.ErrNest)
	isSig(t, "deep on the left", datas(datatype("D", con("d"), con("e", array(array(data("D"), integer), integer)))), api.ErrNest)
	isSig(t, "through another", datas(datatype("D", con("d"), con("e", to("E"))), datatype("E", con("f", data("D")))), api.ErrNest)
	isSig(t, "through another, the other one first", datas(datatype("E", con("f", data("D"))), datatype("D", con("d"), con("e", to("E")))), api.ErrNest)
	isSig(t, "through two", datas(datatype("D", con("d"), con("e", data("E"))), datatype("E", con("f", data("F"))), datatype("F", con("g", to("D")))), api.ErrNest)
	isSig(t, "both in arrays", datas(datatype("D", con("d"), con("e", to("E"))), datatype("E", con("f", to("D")))), api.ErrNest)
	isSig(t, "a way there, none back", datas(datatype("D", con("d"), con("e", to("E"))), datatype("E", con("f"))), api.OK)
	isSig(t, "one that leans on itself, in another's array", datas(datatype("D", con("d", to("L"))), datatype("L", con("n"), con("c", data("L")))), api.OK)
	isSig(t, "a ring, and an array of it outside", datas(datatype("D", con("d", to("A"), to("B"))), datatype("A", con("n"), con("a", data("B"))), datatype("B", con("b", data("A")))), api.OK)
	isSig(t, "a ring that leans on one with an array", datas(datatype("A", con("n"), con("a", data("B"), data("D"))), datatype("B", con("b", data("A"))), datatype("D", con("d", to("E"))), datatype("E", con("e"))), api.OK)
	isSig(t, "an array of itself as an argument", both(funs(fun("f", to("D"), to("D"))), datas(datatype("D", con("d")))), api.OK)
}

// P4.3: which of two errors comes first.
func TestOrderOfErrors(t *testing.T) {
	faults := []struct {
		e api.Errno
		g api.Sig
	}{
		{api.ErrMany, datas(datatype("Empty"))}, {api.ErrMany, datas(cons("Wide", 65, 0))}, {api.ErrMany, funs(fun("long", integer, args(65)...))}, {api.ErrMany, constants(4097)},
		{api.ErrName, users("a|b")}, {api.ErrName, datas(datatype("D1", con("@")))}, {api.ErrName, funs(fun("", integer))},
		{api.ErrTwice, users("Twice", "Twice")}, {api.ErrTwice, datas(datatype("Once", con("once"), con("once")))}, {api.ErrTwice, funs(fun("again", integer), fun("again", boolean))},
		{api.ErrSort, datas(datatype("D2", con("d2", wide(0))))}, {api.ErrSort, funs(fun("s", user("nobody")))},
		{api.ErrNest, datas(datatype("Nest", con("egg"), con("nest", array(integer, data("Nest")))))}, {api.ErrNest, datas(datatype("Air", con("air", array(integer, data("Air")))))},
		{api.ErrGround, datas(datatype("Loop", con("loop", data("Loop"))))}, {api.OK, some()},
	}
	rank := []api.Errno{api.ErrMany, api.ErrName, api.ErrTwice, api.ErrSort, api.ErrNest, api.ErrGround, api.OK}
	for _, a := range faults {
		for _, b := range faults {
			if a.e == b.e {
				continue
			}
			want := min(slices.Index(rank, a.e), slices.Index(rank, b.e))
			isSig(t, fmt.Sprint("errors ", a.e, " and ", b.e), both(a.g, b.g), rank[want])
		}
	}
}

// P4.4: which datatypes are grounded.
func TestGround(t *testing.T) {
	to := func(name string) api.Sort { return array(integer, data(name)) }
	loop := datatype("Loop", con("loop", data("Loop")))
	isGround(t, api.Sig{})
	isGround(t, users("U"))
	isGround(t, datas(loop), false)
	isGround(t, datas(datatype("D", con("a", data("Loop")), con("b", integer)), loop), true, false)
	isGround(t, datas(datatype("D", con("a", data("Loop"))), loop), false, false)
	isGround(t, datas(datatype("D", con("a", integer, data("Loop"))), loop), false, false)
	isGround(t, datas(datatype("D", con("a", to("Loop"))), loop), false, false)
	isGround(t, datas(datatype("D", con("a", array(data("Loop"), integer))), loop), true, false)
	isGround(t, datas(datatype("D", con("a", array(array(integer, data("Loop")), array(data("Loop"), boolean)))), loop), true, false)
	isGround(t, datas(datatype("D", con("a", array(integer, array(boolean, data("Loop"))))), loop), false, false)
	isGround(t, datas(datatype("A", con("a", data("B"))), datatype("B", con("b", data("A")))), false, false)
	isGround(t, datas(datatype("A", con("a", data("B"))), datatype("B", con("b", data("A")), con("c"))), true, true)
	isGround(t, datas(datatype("A", con("a", data("B"), data("C"))), datatype("B", con("b", data("A")), con("bb", data("C"))), datatype("C", con("c", data("A")), con("cc", wide(3)))), true, true, true)
	isGround(t, both(users("U"), datas(datatype("A", con("a", data("B"))), datatype("B", con("b", data("C"))), datatype("C", con("c", data("D")), con("e", data("A"))), datatype("D", con("d", user("U"))))), true, true, true, true)
	isGround(t, both(datas(loop), some()), append([]bool{false}, slices.Repeat([]bool{true}, len(some().Datas))...)...)
	isSig(t, "Loop", datas(loop), api.ErrGround)
	isSig(t, "Loop among others", both(datas(loop), some()), api.ErrGround)
	isSig(t, "an array to Loop", datas(datatype("D", con("d", to("Loop"))), loop), api.ErrGround)
	isSig(t, "two that lean on one another", datas(datatype("A", con("a", data("B"))), datatype("B", con("b", data("A")))), api.ErrGround)
}

// Rings that need as many rounds as they have datatypes, in both orders.
func TestGroundOfLongRings(t *testing.T) {
	const n = 1000
	for _, ground := range []bool{true, false} {
		var g api.Sig
		for i := range n {
			name := fmt.Sprint("D", i)
			g.Datas = append(g.Datas, datatype(name, con("c"+name, data(fmt.Sprint("D", (i+1)%n)))))
		}
		if ground {
			g.Datas[n/2].Cons = append(g.Datas[n/2].Cons, con("end"))
		}
		for range 2 {
			if got := sort.Ground(g); len(got) != n || slices.Contains(got, !ground) {
				t.Errorf("a ring: %v; want %v", got, ground)
			}
			if (sort.CheckSig(g) == api.OK) != ground {
				t.Errorf("CheckSig of a ring")
			}
			slices.Reverse(g.Datas)
		}
	}
}
