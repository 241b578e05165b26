package value_test

import (
	"fmt"
	"runtime"
	"slices"
	"testing"

	"tribunal/api"
	"tribunal/sort"
	"tribunal/value"
)

// P10.6: all values of sorts of each kind.
func TestAll(t *testing.T) {
	g := some()
	no, is := yes(false), yes(true)
	hasAll(t, boolean, g, no, is)
	hasAll(t, wide(1), g, vec(1), vec(1, 1))
	hasAll(t, wide(2), g, vec(2), vec(2, 1), vec(2, 2), vec(2, 3))
	hasAll(t, data("Color"), g, tree("green"), tree("red"))
	hasAll(t, data("Three"), g, tree("a"), tree("light a"), tree("z"))
	hasAll(t, data("Unit"), g, tree("unit"))
	hasAll(t, data("Pair"), g, tree("pair", tree("green"), no), tree("pair", tree("green"), is), tree("pair", tree("red"), no), tree("pair", tree("red"), is))
	s := array(boolean, boolean)
	bools := []api.Value{arr(s, no), arr(s, no, row(no, is)), arr(s, no, row(is, is)), arr(s, is)}
	hasAll(t, s, g, bools...)
	mixed := []api.Value{tree("m0"), tree("m1", vec(1)), tree("m1", vec(1, 1))}
	for _, b := range []api.Value{no, is} {
		for _, a := range bools {
			mixed = append(mixed, tree("m2", b, a))
		}
	}
	hasAll(t, data("Mixed"), g, mixed...)
	s = array(boolean, data("Three"))
	a, la, z := tree("a"), tree("light a"), tree("z")
	hasAll(t, s, g, arr(s, a), arr(s, a, row(no, la)), arr(s, a, row(no, z)), arr(s, a, row(is, la)), arr(s, a, row(is, z)), arr(s, la), arr(s, la, row(no, z)), arr(s, la, row(is, z)), arr(s, z))
	s = array(data("Three"), boolean)
	hasAll(t, s, g, arr(s, no), arr(s, no, row(a, is)), arr(s, no, row(la, is)), arr(s, no, row(z, is)), arr(s, is), arr(s, is, row(a, no)), arr(s, is, row(la, no)), arr(s, is, row(z, no)))
}

// P10.6: sorts with one value, of arrays too.
func TestAllOfOne(t *testing.T) {
	g := some()
	unit := tree("unit")
	still := model{g}.first(data("Still"))
	hasAll(t, data("Still"), g, still)
	for _, from := range []api.Sort{integer, user("U"), boolean, wide(4096), data("List"), data("Unit"), array(integer, integer)} {
		s := array(from, data("Unit"))
		hasAll(t, s, g, arr(s, unit))
		s = array(from, s)
		hasAll(t, s, g, arr(s, arr(s.Args[1], unit)))
		one := array(array(from, data("Unit")), boolean)
		hasAll(t, one, g, arr(one, yes(false)), arr(one, yes(true)))
	}
	s := array(data("Unit"), wide(2))
	hasAll(t, s, g, arr(s, vec(2)), arr(s, vec(2, 1)), arr(s, vec(2, 2)), arr(s, vec(2, 3)))
}

// P10.6: sorts that have no count, or a greater one.
func TestNotAll(t *testing.T) {
	for _, s := range []api.Sort{integer, user("U"), data("List"), data("Tree"), data("Box"), array(integer, boolean), array(boolean, integer), array(data("Unit"), integer), wide(17), wide(64), wide(4096), array(wide(5), boolean), array(wide(64), boolean), array(boolean, wide(64))} {
		for _, most := range []int{1, 100, api.MaxParts, 1 << 40, int(^uint(0) >> 1)} {
			notAll(t, s, some(), most)
		}
	}
}

// isAll asks for all of many values, and that they are what All promises.
func isAll(t *testing.T, s api.Sort, g api.Sig, count int) {
	t.Helper()
	got, ok := value.All(s, g, count)
	if n, _ := sort.Count(s, g, count); n != count || !ok || len(got) != count {
		t.Fatalf("All(%s): %d values, %v; want %d of %d", name(s), len(got), ok, count, n)
	}
	sum := 0
	for i, v := range got {
		sum += parts(v)
		if i > 0 && value.Cmp(got[i-1], v) >= 0 {
			t.Fatalf("All(%s): %s behind %s", name(s), show(v), show(got[i-1]))
		}
		if i%997 == 0 {
			isNorm(t, v, s, g, v)
		}
	}
	first, _ := value.Default(s, g)
	if sum > api.MaxParts || !slices.ContainsFunc(got, func(v api.Value) bool { return alike(v, first) }) {
		t.Errorf("All(%s): %d parts, %s among them?", name(s), sum, show(first))
	}
	notAll(t, s, g, count-1)
}

// P10.6: MaxParts parts and one more; and many more, which are not made.
func TestManyPartsOfAll(t *testing.T) {
	wrapped := func(name string, s api.Sort, more ...api.Con) api.Datatype {
		return datatype(name, append([]api.Con{con(name+"_c", s)}, more...)...)
	}
	g := datas(
		wrapped("Half", wide(15)), wrapped("More", wide(15), con("more")), wrapped("Less", wide(14), con("l1"), con("l2", boolean)), wrapped("Twice", data("Half")), wrapped("All", wide(16)),
		datatype("Wide", con("wide", append(slices.Repeat([]api.Sort{data("Unit")}, 63), wide(16))...)), datatype("Unit", con("unit")), datatype("Two", con("two", wide(8), wide(8))), datatype("Three", con("three", wide(7), wide(7))),
	)
	isAll(t, wide(16), g, 1<<16)       // each of one part
	isAll(t, data("Half"), g, 1<<15)   // each of two
	isAll(t, data("Less"), g, 1<<14+3) // and five more
	isAll(t, data("Three"), g, 1<<14)  // three each
	isAll(t, array(data("Unit"), wide(15)), g, 1<<15)
	isAll(t, array(wide(3), boolean), g, 256)
	isAll(t, array(wide(1), wide(6)), g, 1<<12)
	isAll(t, array(boolean, array(boolean, array(boolean, boolean))), g, 256)
	for _, s := range []api.Sort{data("More"), data("Twice"), data("All"), data("Wide"), data("Two"), array(data("Unit"), data("Half")), array(wide(4), boolean), array(array(boolean, array(boolean, boolean)), boolean), array(boolean, wide(8))} {
		count, ok := sort.Count(s, g, api.MaxParts)
		if !ok {
			t.Errorf("%s: %d", name(s), count)
		}
		notAll(t, s, g, count)
		notAll(t, s, g, 1<<40)
	}
}

// P10.6: few values, of many parts: as many as may be, one more, and far more.
func TestGreatValuesOfAll(t *testing.T) {
	for _, n := range []int{1000, 21842, 21843, 21844, 40000, 65535, 65536, 65537, 100000} {
		g := datas(append(one("W", n), datatype("D", con("d", data("W"), boolean), con("e", data("W")), con("f"), con("g")))...)
		sum := 3*n + 2 + 2 + 1 + 1 + 1
		got, ok := value.All(data("D"), g, 5)
		if sum <= api.MaxParts && (!ok || len(got) != 5) || sum > api.MaxParts && (ok || got != nil) {
			t.Errorf("%d parts: %d values, %v", sum, len(got), ok)
		}
		if got, ok := value.All(data("W"), g, 1); ok != (n <= api.MaxParts) || ok && (len(got) != 1 || parts(got[0]) != n) {
			t.Errorf("%d parts: %d values, %v", n, len(got), ok)
		}
		for _, s := range []api.Sort{array(data("W"), boolean), array(array(data("W"), data("W")), boolean)} { // whose only key stands in no row
			hasAll(t, s, g, arr(s, yes(false)), arr(s, yes(true)))
		}
	}
	g := datas(datatype("D0", con("d0")))
	for i := range 60 {
		last := data(fmt.Sprint("D", i))
		g.Datas = append(g.Datas, datatype(fmt.Sprint("D", i+1), con(fmt.Sprint("d", i+1), slices.Repeat([]api.Sort{last}, 60)...)))
	}
	notAll(t, data("D3"), g, 1)
	notAll(t, data("D60"), g, 1)
	s := array(data("D60"), boolean)
	hasAll(t, s, g, arr(s, yes(false)), arr(s, yes(true)))
}

// frugal asks that a call takes no more than so much memory.
func frugal(t *testing.T, what string, call func()) {
	t.Helper()
	var before, behind runtime.MemStats
	runtime.ReadMemStats(&before)
	call()
	runtime.ReadMemStats(&behind)
	if used := behind.TotalAlloc - before.TotalAlloc; used > 400<<20 {
		t.Errorf("%s takes %d bytes", what, used)
	}
}

// tall is a chain of datatypes over bits of a width: the last of them, C1200, has values of 1202 parts.
func tall(width int) api.Sig {
	g := datas(datatype("C0", con("c0", wide(width))))
	for i := range 1200 {
		g.Datas = append(g.Datas, datatype(fmt.Sprint("C", i+1), con(fmt.Sprint("c", i+1), data(fmt.Sprint("C", i)))))
	}
	return g
}

// P10.2, P10.6: where there are far too many parts, most are not made.
func TestNotMade(t *testing.T) {
	frugal(t, "All", func() { notAll(t, data("C1200"), tall(15), 1<<15) })
	frugal(t, "All of arrays", func() { notAll(t, array(boolean, data("C1200")), tall(8), 1<<16) })
	units := slices.Repeat([]api.Sort{data("Unit")}, 63)
	frugal(t, "All of wide trees", func() {
		notAll(t, data("Wide"), datas(datatype("Unit", con("unit")), datatype("Wide", con("wide", append(units, wide(16))...))), 1<<16)
	})
	frugal(t, "Norm", func() {
		g := tall(13)
		g.Datas = append(g.Datas, datatype("D", con("d", data("C1200")), con("e", wide(13))))
		s := array(data("D"), boolean)
		v := arr(s, yes(true))
		for i := range 1 << 13 {
			v.Rows = append(v.Rows, row(tree("e", vecOf(13, i)), yes(false)))
		}
		noForm(t, "a great form", v, s, g, api.ErrMany)
	})
}

// P10.6: no room any more for bits, for what arrays go to, and for their keys.
func TestNoRoom(t *testing.T) {
	unit := data("Unit")
	for _, w := range []int{13, 14, 15, 16} {
		g := datas(datatype("Unit", con("unit")), datatype("D", con("d", wide(14), unit, unit, unit, unit), con("e", wide(w))))
		notAll(t, data("D"), g, api.MaxParts)
		notAll(t, array(unit, data("D")), g, api.MaxParts)
	}
	g := datas(append(one("W", api.MaxParts), datatype("D", con("d", data("W"), boolean)))...)
	for _, s := range []api.Sort{data("D"), array(data("D"), boolean), array(boolean, data("D")), array(array(data("D"), boolean), boolean), array(data("W"), data("D")), array(integer, data("W"))} {
		notAll(t, s, g, 1<<17)
	}
	s := array(array(boolean, data("D")), boolean)
	to := s.Args[0]
	v := arr(s, yes(true))
	if e := value.Check(v, s, g); e != api.OK {
		t.Errorf("error %d", e)
	}
	isNorm(t, v, s, g, v)
	notAll(t, to, g, 4)
}
