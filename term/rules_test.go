package term_test

import (
	"reflect"
	"slices"
	"testing"

	"tribunal/api"
	"tribunal/term"
	"tribunal/whole"
)

// A table that is nil, or that New did not make: ErrNil, else zero values; nothing changes.
func TestNoTable(t *testing.T) {
	good := tableOf(t, some())
	constant(t, good, "x")
	copied := *good
	for what, b := range map[string]*term.Table{"nil": nil, "a bare one": {}, "a copy": &copied} {
		for range 2 {
			for _, n := range []api.Node{{}, {Op: api.OTrue}, {Op: api.OFun, Name: "x"}, {Op: api.ONot, Args: []int{0}}, {Op: 99}} {
				if i, e := b.Add(n); i != 0 || e != api.ErrNil {
					t.Errorf("%s: Add: %d, error %d", what, i, e)
				}
				if i, e := b.Make(n.Op, n.Args...); i != 0 || e != api.ErrNil {
					t.Errorf("%s: Make: %d, error %d", what, i, e)
				}
			}
			for _, i := range []int{-1, 0, 1} {
				if n, ok := b.Node(i); ok || !reflect.DeepEqual(n, api.Node{}) {
					t.Errorf("%s: Node(%d): %+v, %v", what, i, n, ok)
				}
				if s, ok := b.Sort(i); ok || !reflect.DeepEqual(s, api.Sort{}) {
					t.Errorf("%s: Sort(%d): %+v, %v", what, i, s, ok)
				}
				if text, e := b.Text(i); text != "" || e != api.ErrNil {
					t.Errorf("%s: Text(%d): %q, error %d", what, i, text, e)
				}
				if list := b.Below(i, 0); len(list) != 0 {
					t.Errorf("%s: Below(%d): %v", what, i, list)
				}
			}
			if g := b.Sig(); b.Len() != 0 || !reflect.DeepEqual(g, api.Sig{}) {
				t.Errorf("%s: %d terms over %+v", what, b.Len(), g)
			}
		}
	}
	if good.Len() != 1 || constant(t, good, "x") != 0 || constant(t, good, "y") != 1 {
		t.Error("the table that was copied is changed")
	}
}

// P5.3: numbers that are no terms'.
func TestNoTerm(t *testing.T) {
	b := tableOf(t, some())
	for range 3 {
		for _, i := range []int{-1, b.Len(), b.Len() + 1, 1 << 40, -1 << 63, 1<<63 - 1} {
			if n, ok := b.Node(i); ok || !reflect.DeepEqual(n, api.Node{}) {
				t.Errorf("Node(%d): %+v, %v", i, n, ok)
			}
			if s, ok := b.Sort(i); ok || !reflect.DeepEqual(s, api.Sort{}) {
				t.Errorf("Sort(%d): %+v, %v", i, s, ok)
			}
		}
		number(t, b, int64(b.Len()))
	}
}

// P5.4: roots that are no terms, that stand twice, or in any order.
func TestBelow(t *testing.T) {
	b := tableOf(t, some())
	x, y, p := constant(t, b, "x"), constant(t, b, "y"), constant(t, b, "p")
	sum := app(t, b, api.OAdd, x, x)
	ite := app(t, b, api.OIte, p, sum, y)
	alone := number(t, b, 8)
	twice := app(t, b, api.OSub, ite, sum)
	isBelow := func(roots []int, want ...int) {
		t.Helper()
		if got := b.Below(roots...); !slices.Equal(got, want) {
			t.Errorf("Below(%v): %v; want %v", roots, got, want)
		}
	}
	isBelow(nil)
	isBelow([]int{-1, 7, 1 << 40, -1 << 63, 1<<63 - 1})
	isBelow([]int{x}, x)
	isBelow([]int{y, x, y}, x, y)
	isBelow([]int{sum}, x, sum)
	isBelow([]int{ite}, x, y, p, sum, ite)
	isBelow([]int{twice}, x, y, p, sum, ite, twice)
	isBelow([]int{alone, sum}, x, sum, alone)
	isBelow([]int{99, twice, -1, alone, x}, x, y, p, sum, ite, alone, twice)
	isBelow(times(sum, 1000), x, sum)
}

// P5.4: more terms than stand in a word of 64.
func TestBelowOfMany(t *testing.T) {
	b := tableOf(t, some())
	constant(t, b, "x")
	for i := 1; i < 400; i++ {
		app(t, b, api.OMinus, i-1)
		for j := range i {
			if i%37 == 0 && j%5 == 0 {
				got := b.Below(j, i)
				if len(got) != i+1 || got[0] != 0 || got[i] != i || !slices.IsSorted(got) {
					t.Fatalf("Below(%d, %d): %v", j, i, got)
				}
			}
		}
	}
	for i := range 10 {
		number(t, b, int64(i))
	}
	if got, want := b.Below(409, 3, 402), []int{0, 1, 2, 3, 402, 409}; !slices.Equal(got, want) {
		t.Errorf("Below: %v; want %v", got, want)
	}
}

// P5.4: terms that stand at more places than can be counted are gone through once.
func TestBelowOfShared(t *testing.T) {
	b := tableOf(t, some())
	i := constant(t, b, "x")
	for range 300 {
		i = app(t, b, api.OAdd, times(i, api.MaxArgs)...)
	}
	if list := b.Below(i, i); len(list) != 301 || list[0] != 0 || list[300] != i {
		t.Errorf("Below(%d): %v", i, list)
	}
}

// P5.1: Sig is what New was given, at any time.
func TestSig(t *testing.T) {
	for _, g := range []api.Sig{{}, some(), lengths()} {
		b := tableOf(t, g)
		if !reflect.DeepEqual(b.Sig(), g) {
			t.Errorf("Sig: %+v; want %+v", b.Sig(), g)
		}
		app(t, b, api.OTrue)
		refuses(t, b, api.Node{Op: api.OFun, Name: "new"}, api.ErrSymbol)
		if !reflect.DeepEqual(b.Sig(), g) {
			t.Errorf("Sig, later: %+v; want %+v", b.Sig(), g)
		}
	}
}

// spoil overwrites all lists within a value, with their spare room.
func spoil(v reflect.Value) {
	switch v.Kind() {
	case reflect.Slice:
		all := v.Slice3(0, v.Cap(), v.Cap())
		for i := range all.Len() {
			spoil(all.Index(i))
			all.Index(i).Set(reflect.Zero(all.Index(i).Type()))
			if all.Index(i).CanInt() {
				all.Index(i).SetInt(-77)
			}
			if all.Index(i).CanUint() {
				all.Index(i).SetUint(77)
			}
		}
	case reflect.Struct:
		for i := range v.NumField() {
			spoil(v.Field(i))
		}
	}
}

// A table keeps nothing of the signature that it was given, and hands out nothing of its own.
func TestSignatureIsOnesOwn(t *testing.T) {
	given := some()
	b := tableOf(t, given)
	spoil(reflect.ValueOf(given))
	told := b.Sig()
	if !reflect.DeepEqual(told, some()) {
		t.Fatalf("Sig hangs on what was given: %+v", told)
	}
	spoil(reflect.ValueOf(told))
	if !reflect.DeepEqual(b.Sig(), some()) {
		t.Error("Sig hangs on what was told")
	}
	x, a := constant(t, b, "x"), constant(t, b, "a")
	isTerm(t, b, named(t, b, api.OCon, "cons", x, constant(t, b, "l")), data("List"), "(cons x l)")
	isTerm(t, b, named(t, b, api.OFun, "g", x, constant(t, b, "p"), a), data("Color"), "(g x p a)")
	isTerm(t, b, app(t, b, api.OSelect, a, x), integer, "(select a x)")
}

// samples are nodes with lists in all fields that are named, over the terms x (0) and b4 (1).
func samples() []api.Node {
	return []api.Node{
		{Op: api.ONum, Int: api.Int{Neg: true, Mag: api.Nat{1, 2, 3, 0}}},
		{Op: api.OBits, Bits: api.Bits{Width: 200, Val: api.Nat{4, 5, 6, 0}}},
		{Op: api.OConst, Sort: array(array(integer, boolean), array(boolean, integer)), Args: []int{2}},
		{Op: api.OExtract, Params: []int{3, 1}, Args: []int{1}},
		{Op: api.OZeroExt, Params: []int{3}, Args: []int{1}},
		{Op: api.OAdd, Args: []int{0, 0, 0}},
	}
}

func sampleTable(t *testing.T) *term.Table {
	b := tableOf(t, some())
	constant(t, b, "x")
	constant(t, b, "b4")
	everywhere(t, b, array(boolean, integer), 0)
	return b
}

// What is added is not kept, spare room included; what is told shares no memory with the table or another answer.
func TestNodesAreOnesOwn(t *testing.T) {
	b := sampleTable(t)
	m := newModel(some())
	sorts := []api.Sort{integer, wide(200), array(array(integer, boolean), array(boolean, integer)), wide(3), wide(7), integer}
	hold := func(when string) {
		t.Helper()
		for k, n := range samples() {
			if told, _ := b.Node(3 + k); !reflect.DeepEqual(told, m.canonical(n)) {
				t.Errorf("sample %d, %s: %+v", k, when, told)
			}
			if s, _ := b.Sort(3 + k); !reflect.DeepEqual(s, sorts[k]) {
				t.Errorf("the sort of sample %d, %s: %+v", k, when, s)
			}
			if i := put(t, b, n); i != 3+k {
				t.Errorf("the sample %d, %s, is %d", k, when, i)
			}
		}
	}
	for _, n := range samples() {
		n.Args = append(make([]int, 0, 9), n.Args...)
		put(t, b, n)
		spoil(reflect.ValueOf(n))
	}
	hold("once what was given was overwritten")
	for k := range samples() {
		told, _ := b.Node(3 + k)
		s, _ := b.Sort(3 + k)
		spoil(reflect.ValueOf(told))
		spoil(reflect.ValueOf(s))
	}
	hold("once what was told was overwritten")
	args := append(make([]int, 0, 9), 0, 0)
	i, e := b.Make(api.OSub, args...)
	spoil(reflect.ValueOf(args))
	if e != api.OK {
		t.Fatalf("Make: error %d", e)
	}
	isTerm(t, b, i, integer, "(- x x)")
}

// Sorts that are told, and lists of terms, are new memory; sorts that stand within others are, too.
func TestAnswersAreNew(t *testing.T) {
	b := sampleTable(t)
	key, val := array(integer, boolean), array(boolean, integer)
	deep := everywhere(t, b, array(key, val), 2)
	index := everywhere(t, b, key, app(t, b, api.OTrue))
	inner := app(t, b, api.OSelect, deep, index)
	stored := app(t, b, api.OStore, deep, index, inner)
	want := map[int]api.Sort{deep: array(key, val), index: key, inner: val, stored: array(key, val)}
	for _, i := range []int{deep, index, inner, stored} {
		s, _ := b.Sort(i)
		spoil(reflect.ValueOf(s))
		for j, u := range want {
			if got, _ := b.Sort(j); !reflect.DeepEqual(got, u) {
				t.Errorf("Sort(%d), once that of %d was overwritten: %+v", j, i, got)
			}
		}
	}
	list := b.Below(stored)
	spoil(reflect.ValueOf(list))
	if got := b.Below(stored); !slices.Equal(got, []int{0, 2, 3, 4, 5, 6, 7}) {
		t.Errorf("Below(%d): %v", stored, got)
	}
}

// No call changes what is handed in, nor a place behind it.
func TestNothingIsChanged(t *testing.T) {
	b := sampleTable(t)
	for _, n := range append(samples(), api.Node{Op: api.OExtract, Params: []int{1, 3}, Args: []int{1}}, api.Node{Op: api.OAdd, Args: []int{1, 0}}) {
		n.Args = append(append(make([]int, 0, 9), n.Args...), 5, 6, 7)[:len(n.Args)]
		n.Params = append(append(make([]int, 0, 9), n.Params...), 5, 6, 7)[:len(n.Params)]
		before := [][]int{slices.Clone(n.Args[:len(n.Args)+3]), slices.Clone(n.Params[:len(n.Params)+3])}
		mag, val := slices.Clone(n.Int.Mag), slices.Clone(n.Bits.Val)
		b.Add(n)
		b.Make(n.Op, n.Args...)
		b.Below(n.Args...)
		if !slices.Equal(before[0], n.Args[:len(n.Args)+3]) || !slices.Equal(before[1], n.Params[:len(n.Params)+3]) || !slices.Equal(mag, n.Int.Mag) || !slices.Equal(val, n.Bits.Val) {
			t.Errorf("%s is changed", brief(n))
		}
	}
}

// picture is all that a table tells.
func picture(b *term.Table) []any {
	list := []any{b.Sig(), b.Len(), b.Below(0, 1, 2, 3, 4, 5, 6, 7)}
	for i := range b.Len() + 1 {
		n, ok := b.Node(i)
		s, is := b.Sort(i)
		text, e := b.Text(i)
		list = append(list, n, ok, s, is, text, e)
	}
	return list
}

// What is refused changes nothing: all that the table tells is as ahead of it, and a later term stands where it would.
func TestRefusalsChangeNothing(t *testing.T) {
	m := newModel(some())
	b := tableOf(t, some())
	k := newMaker(5, m)
	for range 60 {
		n := k.node()
		m.add(n)
		b.Add(n)
	}
	refused := 0
	for range 2000 {
		n := k.node()
		if _, e := m.check(n); e == api.OK {
			continue
		}
		refused++
		before := picture(b)
		if _, e := b.Add(n); e == api.OK {
			t.Fatalf("Add(%s): no error", brief(n))
		}
		if refused%10 == 0 && !reflect.DeepEqual(before, picture(b)) {
			t.Fatalf("Add(%s) changed the table", brief(n))
		}
	}
	if refused < 200 {
		t.Errorf("only %d were refused", refused)
	}
	sameTerms(t, b, m)
}

// Two tables know nothing of one another, over one signature or others; Make is Add.
func TestTablesApart(t *testing.T) {
	b, c := tableOf(t, some()), tableOf(t, some())
	d := tableOf(t, api.Sig{Funs: []api.Fun{fun("x", boolean)}})
	x, three := constant(t, b, "x"), number(t, b, 3)
	if i := number(t, c, 3); i != 0 || c.Len() != 1 {
		t.Errorf("3 is %d", i)
	}
	refuses(t, c, api.Node{Op: api.OAdd, Args: []int{x, three}}, api.ErrArg)
	isTerm(t, d, constant(t, d, "x"), boolean, "x")
	isTerm(t, b, x, integer, "x")
	i, e := b.Make(api.OAdd, x, three)
	if j, f := b.Add(api.Node{Op: api.OAdd, Args: []int{x, three}}); e != api.OK || f != api.OK || i != j || i != 2 {
		t.Errorf("Make: %d, error %d; Add: %d, error %d", i, e, j, f)
	}
	if i, e := b.Make(api.OTrue); i != 3 || e != api.OK {
		t.Errorf("Make(OTrue): %d, error %d", i, e)
	}
	if i, e := b.Make(api.ONum); i != 4 || e != api.OK {
		t.Errorf("Make(ONum): %d, error %d", i, e)
	}
	for op, want := range map[api.Op]api.Errno{api.OFun: api.ErrSymbol, api.OBits: api.ErrWidth, api.OConst: api.ErrParam, api.OExtract: api.ErrParam, 0: api.ErrOp} {
		args := []int{x}
		if op == api.OBits {
			args = nil
		}
		if i, e := b.Make(op, args...); i != 0 || e != want {
			t.Errorf("Make(%d): %d, error %d; want %d", op, i, e, want)
		}
	}
}

// No call panics, whatever it is given.
func TestAnythingGoes(t *testing.T) {
	endless := make([]api.Sort, 2)
	endless[0], endless[1] = api.Sort{Kind: api.KArray, Args: endless}, api.Sort{Kind: api.KArray, Args: endless}
	sorts := []api.Sort{{}, endless[0], {Kind: api.KArray}, {Kind: api.KArray, Args: []api.Sort{{}, {}}}, {Kind: api.KBits, Width: -1}, {Kind: -1 << 63, Name: "\xff"}}
	nats := []api.Nat{nil, {0}, {1}, make(api.Nat, 9000), append(make(api.Nat, 9000), 1)}
	lists := [][]int{nil, {0}, {0, 0}, {0, 0, 0}, {-1}, {1 << 62, -1 << 63}, {1<<63 - 1}, make([]int, 64), make([]int, 5000)}
	d := dice{3}
	b := sampleTable(t)
	for op := api.Op(-2); op < 80; op++ {
		for range 400 {
			n := api.Node{Op: op, Name: pick(&d, []string{"", "x", "cons", "head", "\xff", "f"}), Int: api.Int{Neg: d.below(2) == 0, Mag: pick(&d, nats)}, Bits: api.Bits{Width: pick(&d, lists[6]), Val: pick(&d, nats)}, Sort: pick(&d, sorts), Params: pick(&d, lists), Args: pick(&d, lists)}
			b.Add(n)
			b.Make(n.Op, n.Args...)
			b.Below(n.Args...)
		}
	}
	for _, list := range lists {
		for _, i := range list {
			b.Node(i)
			b.Sort(i)
			b.Text(i)
		}
	}
	b.Add(api.Node{Op: api.ONum, Int: whole.Of(-1 << 63)})
}
