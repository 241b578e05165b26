package value_test

import (
	"fmt"
	"math/big"
	"slices"
	"testing"

	"tribunal/api"
	"tribunal/sort"
	"tribunal/value"
)

// P10.2: numbers and bits in all forms; what stands in trees and arrays.
func TestFormsOfNumbers(t *testing.T) {
	whole := func(neg bool, mag ...uint64) api.Value {
		return api.Value{Kind: api.VInt, Int: api.Int{Neg: neg, Mag: mag}}
	}
	for _, x := range []struct{ v, want api.Value }{
		{whole(false), num(0)}, {whole(true), num(0)}, {whole(false, 0), num(0)}, {whole(true, 0, 0, 0), num(0)}, {whole(true, 5, 0), num(-5)}, {whole(false, 0, 1, 0, 0), great(new(big.Int).Lsh(big.NewInt(1), 64))},
		{whole(true, make([]uint64, 9000)...), num(0)}, {whole(false, append([]uint64{7}, make([]uint64, 9000)...)...), num(7)},
	} {
		isNorm(t, x.v, integer, some(), x.want)
		isNorm(t, tree("cons", x.v, list(1)), data("List"), some(), tree("cons", x.want, list(1)))
		s := array(integer, integer)
		isNorm(t, arr(s, x.v, row(num(9), num(8))), s, some(), arr(s, x.want, row(num(9), num(8))))
		isNorm(t, arr(s, num(77), row(x.v, x.v)), s, some(), arr(s, num(77), row(x.want, x.want)))
	}
	longest := new(big.Int).Sub(new(big.Int).Lsh(big.NewInt(1), 64*api.MaxLimbs), big.NewInt(1))
	isNorm(t, great(longest), integer, some(), great(longest))
	isNorm(t, turned(great(longest), func(v *api.Value) { v.Int.Mag = append(v.Int.Mag, 0) }), integer, some(), great(longest))
	isNorm(t, vec(4), wide(4), some(), vec(4))
	isNorm(t, vec(4, 0, 0), wide(4), some(), vec(4))
	isNorm(t, vec(4, 9, 0), wide(4), some(), vec(4, 9))
	isNorm(t, vec(65, 0, 1, 0), wide(65), some(), vec(65, 0, 1))
	isNorm(t, vec(65, 1, 0), wide(65), some(), vec(65, 1))
	isNorm(t, yes(true), boolean, some(), yes(true))
	isNorm(t, elem("my sort", 7), user("my sort"), some(), elem("my sort", 7))
}

// P10.2: arrays over a sort that is not finite: Else stays, however many rows there are.
func TestFormsOverEndlessSorts(t *testing.T) {
	g := some()
	s := array(integer, integer)
	zero := api.Value{Kind: api.VInt, Int: api.Int{Neg: true, Mag: api.Nat{0, 0}}}
	for _, x := range []struct{ v, want api.Value }{
		{arr(s, num(5)), arr(s, num(5))},
		{arr(s, num(5), row(num(1), num(5))), arr(s, num(5))}, // a row with what Else says
		{arr(s, num(5), row(num(1), num(6)), row(num(1), num(5))), arr(s, num(5))},
		{arr(s, num(5), row(num(1), num(5)), row(num(1), num(6))), arr(s, num(5), row(num(1), num(6)))},
		{arr(s, num(5), row(num(1), num(6)), row(num(1), num(7)), row(num(1), num(8))), arr(s, num(5), row(num(1), num(8)))}, // the last of the same Key
		{arr(s, num(5), row(num(2), num(1)), row(num(-2), num(1)), row(num(1), num(9)), row(num(2), num(2))), arr(s, num(5), row(num(-2), num(1)), row(num(1), num(9)), row(num(2), num(2)))},
		{arr(s, num(5), row(num(0), num(1)), row(zero, num(2))), arr(s, num(5), row(num(0), num(2)))}, // Keys that differ in form alone
		{arr(s, num(5), row(num(1), num(3)), row(num(2), num(3)), row(num(3), num(3)), row(num(4), num(3))), arr(s, num(5), row(num(1), num(3)), row(num(2), num(3)), row(num(3), num(3)), row(num(4), num(3)))},
		{arr(s, num(0), row(num(1), zero), row(num(2), num(2))), arr(s, num(0), row(num(2), num(2)))}, // Else in another form
	} {
		isNorm(t, x.v, s, g, x.want)
	}
	s = array(user("U"), boolean)
	isNorm(t, arr(s, yes(true), row(elem("U", 2), yes(false)), row(elem("U", 0), yes(false)), row(elem("U", 1), yes(true))), s, g, arr(s, yes(true), row(elem("U", 0), yes(false)), row(elem("U", 2), yes(false))))
	s = array(data("List"), boolean)
	isNorm(t, arr(s, yes(true), row(list(), yes(false)), row(list(2), yes(false)), row(list(1, 3), yes(false))), s, g, arr(s, yes(true), row(list(1, 3), yes(false)), row(list(2), yes(false)), row(list(), yes(false))))
	s = array(wide(64), boolean)
	isNorm(t, arr(s, yes(true), row(vec(64, 2), yes(false)), row(vec(64, 1, 0), yes(false))), s, g, arr(s, yes(true), row(vec(64, 1), yes(false)), row(vec(64, 2), yes(false))))
	s = array(array(integer, boolean), boolean)
	key := func(rows ...api.Row) api.Value { return arr(s.Args[0], yes(false), rows...) }
	isNorm(t, arr(s, yes(false), row(key(row(num(1), yes(true)), row(num(1), yes(false))), yes(true)), row(key(row(num(4), yes(true))), yes(true)), row(key(), yes(false))), s, g, arr(s, yes(false), row(key(row(num(4), yes(true))), yes(true))))
}

// P10.2: arrays over a finite sort: Else is what most keys have; of what is even the first in the order.
func TestFormsOverFiniteSorts(t *testing.T) {
	g := some()
	s := array(boolean, integer)
	no, is := yes(false), yes(true)
	for _, x := range []struct{ v, want api.Value }{
		{arr(s, num(1), row(is, num(1)), row(no, num(0)), row(no, num(5))), arr(s, num(1), row(no, num(5)))}, // the chapter's
		{arr(s, num(7), row(is, num(2))), arr(s, num(2), row(no, num(7)))},
		{arr(s, num(2), row(is, num(7))), arr(s, num(2), row(is, num(7)))},
		{arr(s, num(2), row(no, num(7))), arr(s, num(2), row(no, num(7)))},
		{arr(s, num(9), row(no, num(-7)), row(is, num(7))), arr(s, num(-7), row(is, num(7)))}, // Else is nowhere
		{arr(s, num(-9), row(no, num(8)), row(is, num(7))), arr(s, num(7), row(no, num(8)))},
		{arr(s, num(0), row(no, num(8)), row(is, num(8))), arr(s, num(8))},
		{arr(s, num(0), row(no, num(0))), arr(s, num(0))},
	} {
		isNorm(t, x.v, s, g, x.want)
	}
	s = array(data("Three"), wide(2))
	a, la, z := tree("a"), tree("light a"), tree("z")
	for _, x := range []struct{ v, want api.Value }{
		{arr(s, vec(2, 3), row(z, vec(2, 1)), row(a, vec(2, 1))), arr(s, vec(2, 1), row(la, vec(2, 3)))},
		{arr(s, vec(2, 1), row(z, vec(2)), row(a, vec(2))), arr(s, vec(2), row(la, vec(2, 1)))},
		{arr(s, vec(2, 3), row(z, vec(2, 1)), row(a, vec(2, 2))), arr(s, vec(2, 1), row(a, vec(2, 2)), row(la, vec(2, 3)))}, // three that are even
		{arr(s, vec(2, 1), row(z, vec(2, 3)), row(a, vec(2, 2))), arr(s, vec(2, 1), row(a, vec(2, 2)), row(z, vec(2, 3)))},
		{arr(s, vec(2, 0), row(z, vec(2, 3)), row(a, vec(2, 3)), row(la, vec(2, 3))), arr(s, vec(2, 3))},
		{arr(s, vec(2, 3), row(z, vec(2, 1)), row(z, vec(2, 3)), row(a, vec(2, 1))), arr(s, vec(2, 3), row(a, vec(2, 1)))},
	} {
		isNorm(t, x.v, s, g, x.want)
	}
	s = array(data("Unit"), integer)
	isNorm(t, arr(s, num(3)), s, g, arr(s, num(3)))
	isNorm(t, arr(s, num(3), row(tree("unit"), num(4))), s, g, arr(s, num(4)))
	s = array(data("Still"), data("Color"))
	still := model{g}.first(data("Still"))
	isNorm(t, arr(s, tree("red"), row(still, tree("green"))), s, g, arr(s, tree("green")))
	isNorm(t, arr(s, tree("green")), s, g, arr(s, tree("green")))
	s = array(integer, data("Unit"))
	isNorm(t, arr(s, tree("unit"), row(num(1), tree("unit"))), s, g, arr(s, tree("unit")))
}

// P10.2: what is even is decided by the order of normal forms, whatever the forms that come in.
func TestFormsOfTies(t *testing.T) {
	g := some()
	to := array(boolean, integer)
	s := array(boolean, to)
	zero := api.Value{Kind: api.VInt, Int: api.Int{Neg: true, Mag: api.Nat{0}}}
	eight := arr(to, num(8), row(yes(true), num(1))) // as it stands behind five, in normal form ahead of it
	five := arr(to, num(5))
	isNorm(t, arr(s, five, row(yes(true), eight)), s, g, arr(s, arr(to, num(1), row(yes(false), num(8))), row(yes(false), five)))
	isNorm(t, arr(s, eight, row(yes(true), five)), s, g, arr(s, arr(to, num(1), row(yes(false), num(8))), row(yes(true), five)))
	s = array(boolean, integer)
	isNorm(t, arr(s, zero, row(yes(true), num(-1))), s, g, arr(s, num(-1), row(yes(false), num(0))))
	isNorm(t, arr(s, num(1), row(yes(true), zero)), s, g, arr(s, num(0), row(yes(false), num(1))))
}

// P10.2: where the keys of a finite sort are many: half of them and one fewer, even and one more.
func TestFormsAtTheHalf(t *testing.T) {
	g := some()
	for _, w := range []int{3, 8, 14} {
		s := array(wide(w), integer)
		half := 1 << (w - 1)
		for _, n := range []int{half - 1, half, half + 1} {
			for _, other := range []int64{4, 6} {
				v := arr(s, num(other))
				for i := range n {
					v.Rows = append(v.Rows, row(vec(w, uint64(2*half-1-i)), num(5)))
				}
				want := arr(s, num(other))
				for i := 2*half - n; i < 2*half; i++ {
					want.Rows = append(want.Rows, row(vecOf(w, i), num(5)))
				}
				if n > half || n == half && other == 6 {
					want = arr(s, num(5))
					for i := range 2*half - n {
						want.Rows = append(want.Rows, row(vecOf(w, i), num(other)))
					}
				}
				isNorm(t, v, s, g, want)
			}
		}
	}
}

func vecOf(width, n int) api.Value { return vec(width, limbsOf(big.NewInt(int64(n)))...) }

// one is datatypes that have one value each; the last of them, by its name, has so many parts.
func one(name string, parts int) []api.Datatype {
	list := []api.Datatype{datatype(name+"0", con(name+"_u"))} // the kth has 2^(k+1) - 1 parts
	for k := 1; 1<<(k+1)-1 < parts; k++ {
		of := data(fmt.Sprint(name, k-1))
		list = append(list, datatype(fmt.Sprint(name, k), con(fmt.Sprint(name, "_c", k), of, of)))
	}
	var args []api.Sort
	left := parts - 1
	for k := len(list) - 1; k >= 0; k-- {
		for ; left >= 1<<(k+1)-1; left -= 1<<(k+1) - 1 {
			args = append(args, data(fmt.Sprint(name, k)))
		}
	}
	return append(list, datatype(name, con(name+"_c", args...)))
}

// P10.5 counts them: they are what the next tests lean on.
func TestOne(t *testing.T) {
	for _, n := range []int{1, 2, 3, 4, 7, 8, 100, 65535, 65536} {
		g := datas(one("W", n)...)
		if e := sort.CheckSig(g); e != api.OK {
			t.Fatalf("error %d", e)
		}
		v, e := value.Default(data("W"), g)
		if e != api.OK || parts(v) != n {
			t.Errorf("%d parts, error %d; want %d", parts(v), e, n)
		}
		if c, ok := sort.Count(data("W"), g, 9); c != 1 || !ok {
			t.Errorf("%d values, %v", c, ok)
		}
	}
}

// P10.2: a value in few parts whose normal form has as many as may be, and one more.
func TestManyPartsOfForms(t *testing.T) {
	for _, more := range []int{-1, 0, 1, 1000, 40000} {
		g := datas(append(one("W", api.MaxParts-4+more), datatype("D", con("a"), con("b"), con("c", data("W"))))...)
		g.Datas = append(g.Datas, datatype("Pack", con("pack", array(data("D"), integer))))
		s := array(data("D"), integer)
		v := arr(s, num(7), row(tree("a"), num(1)), row(tree("b"), num(1)))
		first, e := value.Default(data("W"), g)
		if more > 4 {
			if e != api.ErrMany {
				t.Errorf("the first value, with %d more parts: error %d", more, e)
			}
		} else if more <= 0 {
			isNorm(t, v, s, g, arr(s, num(1), row(tree("c", first), num(7))))
		}
		if more > 0 {
			noForm(t, fmt.Sprint("a form with ", more, " parts too many"), v, s, g, api.ErrMany)
			if e := value.Check(v, s, g); e != api.OK {
				t.Errorf("Check: error %d", e)
			}
			manyWithin(t, g, s, v)
		}
		if more == 0 {
			noForm(t, "a form that is one part too great around another", tree("pack", v), data("Pack"), g, api.ErrMany)
		}
		isNorm(t, arr(s, num(7), row(tree("a"), num(1))), s, g, arr(s, num(7), row(tree("a"), num(1)))) // it stands in no row
		isNorm(t, arr(s, num(1), row(tree("a"), num(1)), row(tree("b"), num(1))), s, g, arr(s, num(1)))
	}
}

// manyWithin asks for ErrMany where the value with too great a form stands in another one, whose own form has not to do with it.
func manyWithin(t *testing.T, g api.Sig, s api.Sort, v api.Value) {
	t.Helper()
	small := arr(s, num(1))
	to := array(boolean, s)
	noForm(t, "an array with it behind Else", arr(to, v, row(yes(true), small), row(yes(false), small)), to, g, api.ErrMany)
	noForm(t, "an array with it in a row that does not count", arr(to, small, row(yes(true), v), row(yes(true), small)), to, g, api.ErrMany)
	from := array(s, boolean)
	noForm(t, "an array with it as a key", arr(from, yes(true), row(v, yes(true))), from, g, api.ErrMany)
	noForm(t, "an array with it as a key that counts", arr(from, yes(true), row(v, yes(false))), from, g, api.ErrMany)
	noForm(t, "a tree with it", tree("pack", v), data("Pack"), g, api.ErrMany)
}

// P10.2: Else, said once, in the rows of many keys.
func TestManyElses(t *testing.T) {
	g := some()
	s := array(wide(4), data("List"))
	v := func(other api.Value) api.Value {
		v := arr(s, other)
		for i := range 8 {
			v.Rows = append(v.Rows, row(vecOf(4, 8+i), list())) // even: a cons stands ahead of nil
		}
		return v
	}
	isNorm(t, v(chain(8001)), s, g, v(chain(8001)))
	nine := v(chain(8001))
	nine.Rows = append(nine.Rows, row(vecOf(4, 7), list()))
	want := arr(s, list())
	for i := range 7 {
		want.Rows = append(want.Rows, row(vecOf(4, i), chain(9361)))
	}
	nine.Else[0] = chain(9361) // 7 times 9362 parts, and 2
	if parts(want) != api.MaxParts {
		t.Fatalf("%d parts", parts(want))
	}
	isNorm(t, nine, s, g, want)
	nine.Else[0] = chain(9363)
	noForm(t, "7 keys with as many parts each", nine, s, g, api.ErrMany)
}

// P10.2: keys that are not said, of which there are many, in datatypes of many parts: their number alone is too great.
func TestManyKeysUnsaid(t *testing.T) {
	for _, ahead := range []string{"a", "c"} { // ahead of the long ones, and behind them
		g := datas(datatype("C0", con("c0", wide(10))))
		for i := range 70 {
			g.Datas = append(g.Datas, datatype(fmt.Sprint("C", i+1), con(fmt.Sprint("c", i+1), data(fmt.Sprint("C", i)))))
		}
		for _, depth := range []int{61, 62, 70} {
			h := g
			h.Datas = append(slices.Clone(g.Datas), datatype("D", con(ahead, wide(10)), con("b", data(fmt.Sprint("C", depth)))))
			s := array(data("D"), boolean)
			v := arr(s, yes(true))
			for i := range 1 << 10 {
				v.Rows = append(v.Rows, row(tree(ahead, vecOf(10, i)), yes(false)))
			}
			want := 2 + 1<<10*(4+depth) // of each row D, C, .. and the bits, and a Bool
			got, e := value.Norm(v, s, h)
			if want <= api.MaxParts && (e != api.OK || parts(got) != want || got.Else[0].Bool) || want > api.MaxParts && e != api.ErrMany {
				t.Errorf("%d parts, error %d; want %d", parts(got), e, want)
			}
		}
	}
}

// P10.2: a great form that does not count, ahead of much else: what it takes is not taken from the rest.
func TestGreatFormAhead(t *testing.T) {
	g := tall(12)
	s := array(data("D"), boolean)
	g.Datas = append(g.Datas, datatype("D", con("d", wide(12)), con("e", data("C11"))), datatype("L", con("end"), con("l", integer, data("L"))), datatype("P", con("p", s), con("q", data("L"))))
	great := arr(s, yes(true))
	for i := range 1 << 12 {
		great.Rows = append(great.Rows, row(tree("d", vecOf(12, i)), yes(false)))
	}
	long := tree("end")
	for i := range int64(20000) {
		long = tree("l", num(i), long)
	}
	to := array(integer, data("P"))
	v := arr(to, tree("q", tree("end")), row(num(1), tree("p", great)), row(num(1), tree("q", long)))
	isNorm(t, v, to, g, arr(to, tree("q", tree("end")), row(num(1), tree("q", long))))
}

// P10.2: a value with as many parts as may be.
func TestGreatForms(t *testing.T) {
	g := some()
	d := &dice{7}
	s := array(integer, integer)
	v := arr(s, num(0))
	for i := range api.MaxParts/2 - 1 {
		v.Rows = append(v.Rows, row(num(int64(i)), num(int64(i+1))))
	}
	w := v
	w.Rows = mixed(d, v.Rows)
	isNorm(t, w, s, g, v)
	isNorm(t, chain(api.MaxParts-1), data("List"), g, chain(api.MaxParts-1))
	s = array(wide(15), wide(15))
	v, w = arr(s, vec(15)), arr(s, vec(15))
	for _, i := range mixed(d, slices.Repeat([]int{0}, api.MaxParts/2-1)) {
		v.Rows = append(v.Rows, row(vecOf(15, len(v.Rows)+i), vecOf(15, 9)))
	}
	w.Else, w.Rows = []api.Value{vecOf(15, 9)}, []api.Row{row(vecOf(15, 1<<15-1), vec(15))}
	isNorm(t, v, s, g, w)
}

// P10.2: values that share memory with one another.
func TestSharedForms(t *testing.T) {
	g := datas(datatype("T", con("node", data("T"), data("T")), con("leaf")))
	v := bushy(15)
	isNorm(t, v, data("T"), g, bared(v))
	refuses(t, "a tree of twice the parts", tree("node", v, v), data("T"), g, api.ErrMany)
}
