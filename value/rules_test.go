package value_test

import (
	"math"
	"reflect"
	"slices"
	"testing"

	"tribunal/api"
	"tribunal/value"
)

// span is a list's memory, its spare room too.
type span struct{ from, to uintptr }

// spans are those of all lists in a value, a sort, a signature or a list.
func spans(x any) []span {
	var list []span
	var walk func(v reflect.Value)
	walk = func(v reflect.Value) {
		switch v.Kind() {
		case reflect.Slice:
			if v.Cap() > 0 {
				list = append(list, span{v.Pointer(), v.Pointer() + uintptr(v.Cap())*v.Type().Elem().Size()})
			}
			for i := range v.Len() {
				walk(v.Index(i))
			}
		case reflect.Struct:
			for i := range v.NumField() {
				walk(v.Field(i))
			}
		}
	}
	walk(reflect.ValueOf(x))
	return list
}

// apart asks that no list of an answer shares memory with another one of it, nor with what was handed in.
func apart(t *testing.T, what string, answer any, given ...any) {
	t.Helper()
	own := spans(answer)
	slices.SortFunc(own, func(a, b span) int { return int(a.from) - int(b.from) })
	for i := range own {
		if i > 0 && own[i].from < own[i-1].to {
			t.Fatalf("%s: two lists of an answer share memory", what)
		}
	}
	for _, x := range given {
		for _, s := range spans(x) {
			if i, _ := slices.BinarySearchFunc(own, s.from, func(a span, from uintptr) int { return int(a.to) - int(from) - 1 }); i < len(own) && own[i].from < s.to {
				t.Fatalf("%s: an answer shares memory with what was handed in", what)
			}
		}
	}
}

// roomy is a list with room to spare, which is not zero.
func roomy[T any](list []T, junk T) []T {
	return append(slices.Clone(list), junk, junk, junk)[:len(list)]
}

// spacious is a value all of whose lists are roomy.
func spacious(v api.Value) api.Value {
	junk := api.Value{Kind: 99, Name: "junk"}
	v.Int.Mag, v.Bits.Val = roomy(v.Int.Mag, 77), roomy(v.Bits.Val, 77)
	v.Sort = spaciousSort(v.Sort)
	v.Args, v.Else, v.Rows = roomy(v.Args, junk), roomy(v.Else, junk), roomy(v.Rows, row(junk, junk))
	for i, x := range v.Args {
		v.Args[i] = spacious(x)
	}
	for i, x := range v.Else {
		v.Else[i] = spacious(x)
	}
	for i, r := range v.Rows {
		v.Rows[i] = row(spacious(r.Key), spacious(r.Val))
	}
	return v
}

func spaciousSort(s api.Sort) api.Sort {
	s.Args = roomy(s.Args, api.Sort{Kind: 99})
	for i, arg := range s.Args {
		s.Args[i] = spaciousSort(arg)
	}
	return s
}

// seen is all that can be seen of a value, the spare room too.
func seen(v api.Value) any {
	var list []any
	for _, x := range [][]api.Value{v.Args[:cap(v.Args)], v.Else[:cap(v.Else)]} {
		for _, y := range x {
			list = append(list, seen(y))
		}
	}
	for _, r := range v.Rows[:cap(v.Rows)] {
		list = append(list, seen(r.Key), seen(r.Val))
	}
	return append(list, v.Kind, v.Bool, v.Name, v.Index, v.Int.Neg, v.Bits.Width, slices.Clone(v.Int.Mag[:cap(v.Int.Mag)]), slices.Clone(v.Bits.Val[:cap(v.Bits.Val)]), len(v.Args), len(v.Else), len(v.Rows), len(v.Int.Mag), len(v.Bits.Val), seenSort(v.Sort))
}

func seenSort(s api.Sort) any {
	list := []any{s.Kind, s.Width, s.Name, len(s.Args)}
	for _, arg := range s.Args[:cap(s.Args)] {
		list = append(list, seenSort(arg))
	}
	return list
}

// answers is what all calls answer, of two values of a sort and a third one.
func answers(a, b, c api.Value, s api.Sort, g api.Sig) []any {
	norm, e1 := value.Norm(a, s, g)
	same, e2 := value.Same(a, b, s, g)
	text, e3 := value.Text(a, s, g)
	first, e4 := value.Default(s, g)
	all, ok := value.All(s, g, 60)
	at, e5 := value.Select(a, c, s, g)
	stored, e6 := value.Store(a, c, c, s, g)
	return []any{norm, first, all, at, stored, []int{value.Cmp(a, b), value.Cmp(b, c)}, []api.Errno{value.Check(a, s, g), e1, e2, e3, e4, e5, e6}, []bool{same, ok}, text}
}

// Nothing that is handed in is changed, its spare room included; no answer shares memory with it, nor with itself; a second call answers the same.
func TestMemory(t *testing.T) {
	each(t, 8, 250, func(d *dice, m model, s api.Sort) {
		if d.below(3) == 0 {
			s = array(s, s) // so that one value may be a key and a value
		}
		s = spaciousSort(s)
		c := m.value(d, s, 2)
		if s.Kind == api.KArray {
			c = m.value(d, s.Args[0], 2)
		}
		a, b, c := spacious(m.value(d, s, 3)), spacious(m.value(d, s, 2)), spacious(c)
		if d.below(4) == 0 {
			b = a
		}
		before := []any{seen(a), seen(b), seen(c), seenSort(s)}
		got := answers(a, b, c, s, m.g)
		if !reflect.DeepEqual(before, []any{seen(a), seen(b), seen(c), seenSort(s)}) {
			t.Fatalf("what was handed in is changed: %s, %s, %s of %s", show(a), show(b), show(c), name(s))
		}
		for _, answer := range got {
			apart(t, show(a)+" and "+show(c)+" of "+name(s), answer, a, b, c, s, m.g)
		}
		if again := answers(a, b, c, s, m.g); !reflect.DeepEqual(got, again) {
			t.Fatalf("another answer the second time: %v; %v", got, again)
		}
	})
}

// The same of forms in which nodes are shared, of keys that were not said, and of a row that is stored.
func TestMemoryOfSharedValues(t *testing.T) {
	g := some()
	s := array(data("Pair"), array(integer, data("List")))
	l := list(1, 2, 3)
	inner := arr(s.Args[1], l, row(num(1), list(2, 3)), row(num(2), list(2, 3)), row(num(-3), l))
	p := tree("pair", tree("red"), yes(true))
	v := arr(s, inner, row(p, arr(s.Args[1], l)), row(tree("pair", tree("red"), yes(false)), arr(s.Args[1], l)), row(tree("pair", tree("green"), yes(false)), arr(s.Args[1], l)))
	sum := arr(s, arr(s.Args[1], list(9), row(num(4), l)))
	before := []any{seen(v), seen(sum), seen(p), seen(inner)}
	for range 2 {
		norm, _ := value.Norm(v, s, g)
		apart(t, "Norm", norm, v, s, g)
		at, _ := value.Select(v, p, s, g)
		apart(t, "Select", at, v, p, s, g)
		stored, _ := value.Store(sum, p, inner, s, g)
		apart(t, "Store", stored, sum, p, inner, s, g)
		scribble(&norm)
		scribble(&at)
		scribble(&stored)
		if !reflect.DeepEqual(before, []any{seen(v), seen(sum), seen(p), seen(inner)}) {
			t.Fatal("what was handed in is changed")
		}
	}
	h := datas(datatype("T", con("node", data("T"), data("T")), con("leaf")))
	norm, _ := value.Norm(bushy(10), data("T"), h)
	apart(t, "Norm of what is shared", norm)
	all, _ := value.All(array(data("Three"), array(boolean, boolean)), g, 100)
	apart(t, "All", all)
	first, _ := value.Default(data("W"), datas(one("W", 500)...))
	apart(t, "Default", first)
}

// scribble turns all of a value's memory.
func scribble(v *api.Value) {
	for i := range v.Args {
		scribble(&v.Args[i])
	}
	for i := range v.Else {
		scribble(&v.Else[i])
	}
	for i := range v.Rows {
		scribble(&v.Rows[i].Key)
		scribble(&v.Rows[i].Val)
	}
	for i := range v.Int.Mag {
		v.Int.Mag[i] = 77
	}
	for i := range v.Sort.Args {
		v.Sort.Args[i] = api.Sort{Kind: 99}
	}
	*v = api.Value{Kind: 99}
}

// No call panics, and each ends, whatever it is given.
func TestAnythingGoes(t *testing.T) {
	g := some()
	values := []api.Value{{}, {Kind: -1}, {Kind: math.MaxInt, Index: math.MinInt}, endlessValue(), bushy(60), chain(api.MaxParts + 1), {Kind: api.VArray}, {Kind: api.VArray, Rows: make([]api.Row, 3)}, {Kind: api.VArray, Sort: endlessSort(), Else: []api.Value{endlessValue()}},
		{Kind: api.VTree, Name: "cons"}, {Kind: api.VTree, Args: make([]api.Value, 100)}, {Kind: api.VBits, Bits: api.Bits{Width: math.MinInt, Val: make(api.Nat, 9)}}, {Kind: api.VInt, Int: api.Int{Neg: true, Mag: make(api.Nat, 9)}}, {Kind: api.VElem}}
	for _, x := range right() {
		values = append(values, x.v)
	}
	sorts := []api.Sort{{}, {Kind: 99}, {Kind: api.KArray}, {Kind: api.KArray, Args: make([]api.Sort, 2)}, endlessSort(), boolean, integer, wide(0), wide(9), data("List"), data("Box"), data("None"), user("U"), array(integer, integer), array(boolean, boolean), array(data("List"), data("Unit"))}
	sigs := []api.Sig{{}, g, datas(datatype("List")), datas(datatype("List", con("cons", endlessSort())))}
	for _, a := range values {
		for i, b := range values {
			value.Cmp(a, b)
			answers(a, b, b, sorts[i%len(sorts)], g)
		}
		for _, s := range sorts {
			for _, h := range sigs {
				answers(a, a, a, s, h)
			}
		}
	}
}
