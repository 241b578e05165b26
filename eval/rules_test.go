package eval_test

import (
	"math"
	"reflect"
	"slices"
	"testing"

	"tribunal/api"
	"tribunal/eval"
	"tribunal/term"
)

// A table that is nil, or that New did not make: ErrNil, whatever else is wrong.
func TestNoTable(t *testing.T) {
	good := tableOf(t, some())
	p := call(t, good, "p")
	copied := *good
	for what, b := range map[string]*term.Table{"nil": nil, "a bare one": {}, "a copy": &copied} {
		for _, in := range []api.Interp{funs(), funs(funval("x", num(1))), funs(funval("unknown", num(1)))} {
			for _, roots := range [][]int{nil, {p}, {-1, 99}} {
				if v, e := eval.Terms(b, in, roots...); len(v) != 0 || e != api.ErrNil {
					t.Errorf("%s: Terms(%v): %d values, error %d", what, roots, len(v), e)
				}
				if is, e := eval.Holds(b, in, roots...); is || e != api.ErrNil {
					t.Errorf("%s: Holds(%v): %v, error %d", what, roots, is, e)
				}
			}
		}
	}
	is(t, good, funs(funval("p", yes(true))), p, yes(true))
}

// The table is what it was: no term is put into it, and it can be asked again.
func TestTableIsNotChanged(t *testing.T) {
	g := some()
	d := &dice{31}
	for range 10 {
		b, _ := d.madeUp(t, g, 80)
		in := d.interp(g)
		var roots []int
		var before []api.Node
		for i := range b.Len() {
			n, _ := b.Node(i)
			roots, before = append(roots, i), append(before, n)
		}
		first := told(t, b, in, roots...)
		fails(t, b, in, api.ErrArg, -1)
		fails(t, b, funs(funval("x", yes(true))), api.ErrInterp, 0)
		for i := range first {
			scribble(reflect.ValueOf(&first[i]).Elem())
		}
		agree(t, "asked again", told(t, b, in, roots...), normals(b, g, in))
		if b.Len() != len(before) || !reflect.DeepEqual(b.Sig(), g) {
			t.Fatal("the table is changed")
		}
		for i, want := range before {
			if n, ok := b.Node(i); !ok || !reflect.DeepEqual(n, want) {
				t.Fatal("a term is changed")
			}
		}
	}
}

func normals(b *term.Table, g api.Sig, in api.Interp) []api.Value {
	m := newModel(b, g, in)
	var list []api.Value
	for i := range b.Len() {
		list = append(list, m.norm(i))
	}
	return list
}

// scribble turns all of a value's memory, spare room too.
func scribble(v reflect.Value) {
	switch v.Kind() {
	case reflect.Slice:
		all := v.Slice3(0, v.Cap(), v.Cap())
		for i := range all.Len() {
			scribble(all.Index(i))
		}
	case reflect.Struct:
		for i := range v.NumField() {
			scribble(v.Field(i))
		}
	case reflect.Int:
		v.SetInt(-77)
	case reflect.Uint64:
		v.SetUint(77)
	case reflect.String:
		v.SetString("scribbled")
	case reflect.Bool:
		v.SetBool(!v.Bool())
	}
}

// span is a list's memory, its spare room too.
type span struct{ from, to uintptr }

// spans are those of all lists in what is handed in or told.
func spans(x any) []span {
	var list []span
	var walk func(v reflect.Value)
	walk = func(v reflect.Value) {
		switch v.Kind() {
		case reflect.Slice:
			if v.Cap() > 0 {
				list = append(list, span{v.Pointer(), v.Pointer() + uintptr(v.Cap())*v.Type().Elem().Size()})
			}
			for i := range v.Len() {
				walk(v.Index(i))
			}
		case reflect.Struct:
			for i := range v.NumField() {
				walk(v.Field(i))
			}
		}
	}
	walk(reflect.ValueOf(x))
	return list
}

// apart asks that no list of an answer shares memory with another one of it, nor with what was handed in.
func apart(t *testing.T, what string, answer any, given ...any) {
	t.Helper()
	own := spans(answer)
	slices.SortFunc(own, func(a, b span) int { return int(a.from) - int(b.from) })
	for i := range own {
		if i > 0 && own[i].from < own[i-1].to {
			t.Fatalf("%s: two lists of an answer share memory", what)
		}
	}
	for _, x := range given {
		for _, s := range spans(x) {
			if i, _ := slices.BinarySearchFunc(own, s.from, func(a span, from uintptr) int { return int(a.to) - int(from) - 1 }); i < len(own) && own[i].from < s.to {
				t.Fatalf("%s: an answer shares memory with what was handed in", what)
			}
		}
	}
}

// roomy is all that is handed in, each list with room to spare, which is not zero.
func roomy(v reflect.Value) {
	switch v.Kind() {
	case reflect.Slice:
		more := reflect.MakeSlice(v.Type(), v.Len()+3, v.Len()+3)
		reflect.Copy(more, v)
		for i := range v.Len() {
			roomy(more.Index(i))
		}
		for i := v.Len(); i < more.Len(); i++ {
			scribble(more.Index(i))
		}
		v.Set(more.Slice(0, v.Len()))
	case reflect.Struct:
		for i := range v.NumField() {
			roomy(v.Field(i))
		}
	}
}

// seen is all that can be seen of what is handed in, the spare room too.
func seen(x any) any {
	var look func(v reflect.Value) any
	look = func(v reflect.Value) any {
		var list []any
		switch v.Kind() {
		case reflect.Slice:
			list = append(list, v.Len(), v.Cap())
			all := v.Slice3(0, v.Cap(), v.Cap())
			for i := range all.Len() {
				list = append(list, look(all.Index(i)))
			}
			return list
		case reflect.Struct:
			for i := range v.NumField() {
				list = append(list, look(v.Field(i)))
			}
			return list
		}
		return v.Interface()
	}
	return look(reflect.ValueOf(x))
}

func seenAll(list ...any) []any {
	var all []any
	for _, x := range list {
		all = append(all, seen(x))
	}
	return all
}

// Nothing that is handed in is changed, its spare room included; no answer shares memory with it, nor with itself; a second call answers the same.
func TestMemory(t *testing.T) {
	g := some()
	d := &dice{32}
	for range 12 {
		b, _ := d.madeUp(t, g, 80)
		h, in := some(), d.interp(g)
		roomy(reflect.ValueOf(&h).Elem())
		roomy(reflect.ValueOf(&in).Elem())
		roots := append(make([]int, 0, 200), d.below(b.Len()), d.below(b.Len()))
		for i := range b.Len() {
			roots = append(roots, i)
		}
		before := seenAll(h, in, roots[:cap(roots)])
		got := told(t, b, in, roots...)
		apart(t, "Terms", got, in, h, roots)
		agree(t, "a second time", told(t, b, in, roots...), got)
		eval.Check(h, in)
		eval.Holds(b, in, roots...)
		m := newModel(nil, g, in)
		for _, name := range allNames(g) {
			sorts, _, _, _ := m.declared(name)
			var args []api.Value
			for _, s := range sorts {
				args = append(args, d.value(g, s, 3))
			}
			roomy(reflect.ValueOf(&args).Elem())
			given := seen(args)
			v, e := eval.Func(h, in, name, args...)
			again, _ := eval.Func(h, in, name, args...)
			if e != api.OK || !alike(v, again) {
				t.Fatalf("Func of %s: error %d", name, e)
			}
			apart(t, "Func of "+name, []api.Value{v, again}, in, h, args)
			if !reflect.DeepEqual(seen(args), given) {
				t.Fatalf("Func of %s: an argument is changed", name)
			}
		}
		if !reflect.DeepEqual(seenAll(h, in, roots[:cap(roots)]), before) {
			t.Fatal("what was handed in is changed")
		}
	}
}

// Values that are told at more places than one, within a value and among values, share no memory.
func TestMemoryOfSharedValues(t *testing.T) {
	g := some()
	b := tableOf(t, g)
	s := array(integer, integer)
	l, a, x := call(t, b, "l"), call(t, b, "a"), call(t, b, "x")
	in := funs(funval("l", list(1, 2, 3)), funval("a", arr(s, num(5), row(num(5), num(6)))), funval("x", num(5)))
	two := app(t, b, api.OStore, a, x, x)
	both := named(t, b, api.OCon, "cons", x, named(t, b, api.OCon, "cons", x, l))
	box := named(t, b, api.OCon, "box", put(t, b, api.Node{Op: api.OConst, Sort: array(boolean, integer), Args: []int{x}}), named(t, b, api.OCon, "round", x, call(t, b, "c")))
	roots := []int{l, l, a, x, x, two, both, both, box, named(t, b, api.OSel, "tail", l), named(t, b, api.OSel, "tail", both), app(t, b, api.OIte, call(t, b, "p"), both, l)}
	got := told(t, b, in, roots...)
	apart(t, "Terms", got, in, g)
	v, _ := eval.Func(g, in, "tail", in.Funs[0].Else)
	apart(t, "Func", []api.Value{v, got[0]}, in, g)
	v, _ = eval.Func(g, in, "a")
	apart(t, "Func", []api.Value{v, got[2]}, in, g)
}

// endlessValue holds itself.
func endlessValue(kind api.ValueKind) api.Value {
	v := api.Value{Kind: kind, Name: "cons", Args: make([]api.Value, 2), Else: make([]api.Value, 1), Rows: make([]api.Row, 1)}
	if kind == api.VTree {
		v.Else, v.Rows = nil, nil
		v.Args[0] = num(1)
		v.Args[1] = v
	} else {
		v.Name, v.Args = "", nil
		v.Sort = array(integer, integer)
		v.Else[0] = v
		v.Rows[0] = row(v, v)
	}
	return v
}

func endlessSort() api.Sort {
	s := api.Sort{Kind: api.KArray, Args: make([]api.Sort, 2)}
	s.Args[0], s.Args[1] = integer, s
	return s
}

// No call panics, and each ends, whatever it is given.
func TestAnythingGoes(t *testing.T) {
	g := some()
	b := tableOf(t, g)
	x, l := call(t, b, "x"), call(t, b, "l")
	values := []api.Value{{}, {Kind: -1}, {Kind: math.MaxInt, Index: math.MinInt}, endlessValue(api.VTree), endlessValue(api.VArray), {Kind: api.VArray}, {Kind: api.VArray, Rows: make([]api.Row, 3)}, {Kind: api.VArray, Sort: endlessSort(), Else: []api.Value{num(1)}},
		{Kind: api.VTree, Name: "cons"}, {Kind: api.VTree, Args: make([]api.Value, 100)}, {Kind: api.VBits, Bits: api.Bits{Width: math.MinInt, Val: make(api.Nat, 9)}}, {Kind: api.VInt, Int: api.Int{Neg: true, Mag: make(api.Nat, 9000)}}, {Kind: api.VElem}, num(1), list(1)}
	names := []string{"", "x", "l", "f", "h", "head", "cons", "a", "u", "\x00", "is so"}
	sigs := []api.Sig{{}, g, datas(datatype("List")), datas(datatype("List", con("cons", sel("head", endlessSort())))), {Funs: []api.Fun{fun("x", endlessSort())}}, {Funs: []api.Fun{fun("x", integer, endlessSort())}}, {Funs: make([]api.Fun, 9)}, {Datas: make([]api.Datatype, 9)}, {Users: make([]string, 1)}}
	for _, v := range values {
		for _, name := range names {
			for _, in := range []api.Interp{funs(funval(name, v)), funs(funval(name, v, kase(v))), funs(funval(name, num(1), kase(v, v), kase(v, v, v))), funs(funval(name, v), funval("x", num(1)), funval(name, v)), {Funs: make([]api.FunVal, 7)}} {
				eval.Terms(b, in, x, l)
				eval.Holds(b, in, x, l)
				for _, g := range sigs {
					eval.Check(g, in)
					eval.Func(g, in, name, v)
					eval.Func(g, in, name)
					eval.Func(g, funs(), name, v, v)
				}
			}
		}
	}
	failsAt(t, g, funs(), api.ErrValue, "head", endlessValue(api.VTree))
	mayBe(t, g, funs(funval("l", endlessValue(api.VTree))), false)
	mayBe(t, g, funs(funval("head", num(1), kase(num(1), endlessValue(api.VTree)))), false)
}
