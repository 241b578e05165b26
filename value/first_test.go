package value_test

import (
	"fmt"
	"slices"
	"testing"

	"tribunal/api"
	"tribunal/value"
)

// P10.5: the first value of each sort.
func TestDefault(t *testing.T) {
	g := some()
	isDefault(t, boolean, g, yes(false))
	isDefault(t, integer, g, num(0))
	isDefault(t, wide(1), g, vec(1))
	isDefault(t, wide(4096), g, vec(4096))
	isDefault(t, user("my sort"), g, elem("my sort", 0))
	isDefault(t, array(integer, boolean), g, arr(array(integer, boolean), yes(false)))
	s := array(user("U"), array(data("List"), wide(3)))
	isDefault(t, s, g, arr(s, arr(s.Args[1], vec(3))))
	isDefault(t, data("List"), g, list()) // not of the first constructor
	isDefault(t, data("Color"), g, tree("red"))
	isDefault(t, data("Three"), g, tree("z"))
	isDefault(t, data("Pair"), g, tree("pair", tree("red"), yes(false)))
	isDefault(t, data("Unit"), g, tree("unit"))
	isDefault(t, data("Tree"), g, tree("leaf", elem("U", 0)))
	isDefault(t, data("Forest"), g, tree("none"))
	isDefault(t, data("Mixed"), g, tree("m1", vec(1)))
	box := array(integer, data("Pair"))
	isDefault(t, data("Box"), g, tree("box", arr(box, tree("pair", tree("red"), yes(false))), yes(false)))
	still := array(data("List"), data("Unit"))
	isDefault(t, data("Still"), g, tree("still", arr(still, tree("unit")), tree("unit")))
}

// P10.5: ranks: the first constructor that leans on lesser ones, in order of declaration; of arrays the sort to which they go.
func TestRanks(t *testing.T) {
	a, b, c, d := data("A"), data("B"), data("C"), data("D")
	g := datas(
		datatype("A", con("a1", b), con("a2", integer), con("a3")),                                            // rank 1
		datatype("B", con("b1", c), con("b2", b, a), con("b3", a, a), con("b4", a)),                           // 2: b3
		datatype("C", con("c1", b, a), con("c2", b)),                                                          // 3: c1
		datatype("D", con("d1", d), con("d2", c), con("d3", b), con("d4", boolean)),                           // 1: d4
		datatype("E", con("e1", array(data("E2"), integer))),                                                  // 1: what it goes from does not count
		datatype("E2", con("e2", c)),                                                                          // 4
		datatype("F", con("f1", array(integer, array(c, c))), con("f2", a), con("f3", array(c, array(c, a)))), // 2: f2
		datatype("G", con("g1", array(c, array(c, b))), con("g2", a, c)),                                      // 3: g1
	)
	va := tree("a2", num(0))
	vb := tree("b3", va, va)
	vc := tree("c1", vb, va)
	isDefault(t, a, g, va)
	isDefault(t, b, g, vb)
	isDefault(t, c, g, vc)
	isDefault(t, d, g, tree("d4", yes(false)))
	isDefault(t, data("E"), g, tree("e1", arr(array(data("E2"), integer), num(0))))
	isDefault(t, data("E2"), g, tree("e2", vc))
	isDefault(t, data("F"), g, tree("f2", va))
	to := array(c, array(c, b))
	isDefault(t, data("G"), g, tree("g1", arr(to, arr(to.Args[1], vb))))
	slices.Reverse(g.Datas)
	isDefault(t, c, g, vc)
	isDefault(t, data("G"), g, tree("g1", arr(to, arr(to.Args[1], vb))))
}

// P10.5: MaxParts parts and one more; and many more, which are not made.
func TestManyPartsOfDefault(t *testing.T) {
	for _, n := range []int{api.MaxParts - 2, api.MaxParts - 1, api.MaxParts, api.MaxParts + 1, api.MaxParts + 2, 3 * api.MaxParts} {
		g := datas(one("W", n)...)
		s := array(integer, data("W"))
		isFirst := func(s api.Sort, n int) {
			t.Helper()
			v, e := value.Default(s, g)
			if n <= api.MaxParts && (e != api.OK || parts(v) != n) || n > api.MaxParts && (e != api.ErrMany || !alike(v, api.Value{})) {
				t.Errorf("Default(%s): %d parts, error %d; want %d", name(s), parts(v), e, n)
			}
			if e == api.OK {
				isNorm(t, v, s, g, v)
			}
		}
		isFirst(data("W"), n)
		isFirst(s, n+1)
		isFirst(array(data("W"), s), n+2)
		isFirst(array(data("W"), integer), 2)
	}
	g := datas(datatype("D0", con("d0")))
	for i := range 60 {
		last := data(fmt.Sprint("D", i))
		g.Datas = append(g.Datas, datatype(fmt.Sprint("D", i+1), con(fmt.Sprint("d", i+1), slices.Repeat([]api.Sort{last}, 60)...)))
	}
	for i, want := range []int{1, 61, 3661} {
		if v, e := value.Default(data(fmt.Sprint("D", i)), g); e != api.OK || parts(v) != want {
			t.Errorf("Default: %d parts, error %d; want %d", parts(v), e, want)
		}
	}
	for _, i := range []int{3, 4, 60} {
		if v, e := value.Default(data(fmt.Sprint("D", i)), g); e != api.ErrMany || !alike(v, api.Value{}) {
			t.Errorf("Default: %d parts, error %d", parts(v), e)
		}
	}
}

// P10.5: a rank for each of many datatypes.
func TestManyRanks(t *testing.T) {
	g := datas()
	for i := range 700 {
		own := data(fmt.Sprint("D", i))
		g.Datas = append(g.Datas, datatype(own.Name, con(fmt.Sprint("c", i), own), con(fmt.Sprint("d", i), data(fmt.Sprint("D", i+1)))))
	}
	g.Datas = append(g.Datas, datatype("D700", con("d700")))
	v, e := value.Default(data("D0"), g)
	if e != api.OK || parts(v) != 701 {
		t.Fatalf("%d parts, error %d", parts(v), e)
	}
	for i := range 700 {
		if v.Name != fmt.Sprint("d", i) {
			t.Fatalf("%s in place %d", v.Name, i)
		}
		v = v.Args[0]
	}
}
