package sort_test

import (
	"reflect"
	"slices"
	"testing"

	"tribunal/api"
	"tribunal/sort"
)

// refusal is what CheckSig should answer, by the words of P4.3.
func refusal(g api.Sig) api.Errno {
	var sorts, symbols []string
	var used []api.Sort
	many := false
	sorts = append(sorts, g.Users...)
	for _, d := range g.Datas {
		sorts = append(sorts, d.Name)
		many = many || len(d.Cons) == 0 || len(d.Cons) > 64
		for _, c := range d.Cons {
			symbols = append(symbols, c.Name)
			many = many || len(c.Sels) > 64
			for _, s := range c.Sels {
				symbols = append(symbols, s.Name)
				used = append(used, s.Sort)
			}
		}
	}
	for _, f := range g.Funs {
		symbols = append(symbols, f.Name)
		many = many || len(f.Args) > 64
		used = append(append(used, f.Args...), f.Ret)
	}
	if many || len(sorts)+len(symbols) > 4096 {
		return api.ErrMany
	}
	for _, s := range slices.Concat(sorts, symbols) {
		if !sort.Name(s) {
			return api.ErrName
		}
	}
	if twice(sorts) || twice(symbols) {
		return api.ErrTwice
	}
	for _, s := range used {
		if e := sort.Check(s, g); e != api.OK {
			return e
		}
	}
	return deepRefusal(g)
}

func deepRefusal(g api.Sig) api.Errno {
	m := newModel(g)
	if m.nested() {
		return api.ErrNest
	}
	for _, d := range g.Datas {
		if !m.ground[d.Name] {
			return api.ErrGround
		}
	}
	return api.OK
}

func twice(list []string) bool {
	list = slices.Clone(list)
	slices.Sort(list)
	return len(slices.Compact(list)) < len(list)
}

// P4.3, P4.4: CheckSig and Ground, held against the chapter's words on many signatures.
func TestManySignatures(t *testing.T) {
	d := dice{43}
	seen := map[api.Errno]int{}
	for range 20000 {
		g := d.sig(true)
		want := refusal(g)
		seen[want]++
		if got := sort.CheckSig(g); got != want {
			t.Fatalf("CheckSig(%+v): error %d; want %d", g, got, want)
		}
		var ground []bool
		if want == api.OK || want == api.ErrGround {
			m := newModel(g)
			for _, data := range g.Datas {
				ground = append(ground, m.ground[data.Name])
			}
		}
		if got := sort.Ground(g); !slices.Equal(got, ground) {
			t.Fatalf("Ground(%+v): %v; want %v", g, got, ground)
		}
	}
	for _, e := range []api.Errno{api.OK, api.ErrMany, api.ErrName, api.ErrTwice, api.ErrSort, api.ErrNest, api.ErrGround} {
		if seen[e] < 100 {
			t.Errorf("error %d only %d times", e, seen[e])
		}
	}
}

// P4.7: another order of the declarations.
func TestOrderOfDeclarations(t *testing.T) {
	d := dice{47}
	for range 3000 {
		g := d.sig(false)
		h := api.Sig{Users: mixed(&d, g.Users), Datas: mixed(&d, g.Datas), Funs: mixed(&d, g.Funs)}
		for i, data := range h.Datas {
			h.Datas[i].Cons = mixed(&d, data.Cons)
		}
		if a, b := sort.CheckSig(g), sort.CheckSig(h); a != b {
			t.Fatalf("error %d, in another order %d: %+v", a, b, g)
		}
		one, two := sort.Ground(g), sort.Ground(h)
		for i := range one {
			j := slices.IndexFunc(h.Datas, func(d api.Datatype) bool { return d.Name == g.Datas[i].Name })
			if one[i] != two[j] {
				t.Fatalf("%s is grounded in one order: %+v", g.Datas[i].Name, g)
			}
		}
		for range 4 {
			sameAnswers(t, d.sort(g, 2), g, h, 1+d.below(100))
		}
	}
}

// sameAnswers asks two signatures the same of a sort.
func sameAnswers(t *testing.T, s api.Sort, g, h api.Sig, most int) {
	t.Helper()
	if a, b := sort.Check(s, g), sort.Check(s, h); a != b {
		t.Fatalf("Check(%+v): error %d by %+v, %d by %+v", s, a, g, b, h)
	}
	if a, b := sort.Finite(s, g), sort.Finite(s, h); a != b {
		t.Fatalf("Finite(%+v): %v by %+v, %v by %+v", s, a, g, b, h)
	}
	n, isN := sort.Count(s, g, most)
	m, isM := sort.Count(s, h, most)
	if n != m || isN != isM {
		t.Fatalf("Count(%+v, most %d): %d, %v by %+v; %d, %v by %+v", s, most, n, isN, g, m, isM, h)
	}
}

// P4.9: what is declared besides, as long as CheckSig takes it.
func TestMoreDeclarations(t *testing.T) {
	d := dice{49}
	more := api.Sig{
		Users: []string{"V", "W"},
		Datas: []api.Datatype{datatype("X", con("x0"), con("x1", data("X"), data("Y"))), datatype("Y", con("y", array(integer, user("V")))), datatype("Z", con("z"))},
		Funs:  []api.Fun{fun("p", data("X")), fun("q", integer, user("W"))},
	}
	for range 2000 {
		g := d.sig(false)
		if sort.CheckSig(g) != api.OK {
			continue
		}
		leaning := more
		if len(g.Datas) > 0 {
			leaning.Datas = append(slices.Clone(more.Datas), datatype("On", con("on", data(g.Datas[0].Name))))
		}
		h := both(leaning, g)
		if e := sort.CheckSig(h); e != api.OK {
			t.Fatalf("with more: error %d: %+v", e, h)
		}
		for range 4 {
			s := d.sort(g, 2)
			sameAnswers(t, s, g, h, 1+d.below(100))
			sameAnswers(t, s, g, both(g, leaning), 1+d.below(100))
		}
	}
}

// No call changes what is handed in, nor a place behind it; a second call answers the same.
func TestNothingIsChanged(t *testing.T) {
	d := dice{50}
	for range 500 {
		g, h := d.sig(true), api.Sig{}
		g.Users, g.Datas, g.Funs = append(make([]string, 0, 20), g.Users...), append(make([]api.Datatype, 0, 20), g.Datas...), append(make([]api.Fun, 0, 20), g.Funs...)
		h = copiedSig(g)
		s := d.sort(g, 3)
		u := copied(s)
		ask := func() []any {
			text, e := sort.Text(s)
			n, ok := sort.Count(s, g, 50)
			return []any{text, e, sort.Check(s, g), sort.CheckSig(g), sort.Ground(g), sort.Finite(s, g), n, ok, sort.Same(s, u)}
		}
		first := ask()
		if !reflect.DeepEqual(first, ask()) {
			t.Fatalf("another answer the second time: %+v", g)
		}
		if !reflect.DeepEqual(g, h) || !sort.Same(s, u) {
			t.Fatalf("changed: %+v", g)
		}
		for _, name := range g.Users[len(g.Users):20] {
			if name != "" {
				t.Fatal("spare room of the users")
			}
		}
		for _, spare := range g.Datas[len(g.Datas):20] {
			if spare.Name != "" || spare.Cons != nil {
				t.Fatal("spare room of the datatypes")
			}
		}
	}
}

func copiedSig(g api.Sig) api.Sig {
	h := api.Sig{Users: slices.Clone(g.Users), Datas: slices.Clone(g.Datas), Funs: slices.Clone(g.Funs)}
	for i := range h.Datas {
		h.Datas[i].Cons = slices.Clone(h.Datas[i].Cons)
		for j := range h.Datas[i].Cons {
			h.Datas[i].Cons[j].Sels = slices.Clone(h.Datas[i].Cons[j].Sels)
			for k := range h.Datas[i].Cons[j].Sels {
				h.Datas[i].Cons[j].Sels[k].Sort = copied(h.Datas[i].Cons[j].Sels[k].Sort)
			}
		}
	}
	for i := range h.Funs {
		h.Funs[i].Args = slices.Clone(h.Funs[i].Args)
		for j := range h.Funs[i].Args {
			h.Funs[i].Args[j] = copied(h.Funs[i].Args[j])
		}
		h.Funs[i].Ret = copied(h.Funs[i].Ret)
	}
	return h
}

// What Ground answers is new memory, each time.
func TestAnswersAreNew(t *testing.T) {
	g := some()
	a := sort.Ground(g)
	for i := range a[:cap(a)] {
		a[:cap(a)][i] = false
	}
	if b := sort.Ground(g); slices.Contains(b, false) {
		t.Errorf("Ground: %v", b)
	}
}

// No call panics, whatever it is given.
func TestAnythingGoes(t *testing.T) {
	sorts := append(samples(), endless(), bushy(40, boolean), deep(65536, integer), api.Sort{Kind: api.KArray, Width: -1, Name: "|", Args: make([]api.Sort, 3)})
	sigs := []api.Sig{{}, some(), users(""), datas(api.Datatype{}), datas(datatype("D", api.Con{})), datas(datatype("D", api.Con{Sels: make([]api.Sel, 3)})), funs(api.Fun{}), funs(fun("f", endless(), endless())), datas(datatype("D", con("d", endless()))), datas(datatype("D", con("d", bushy(40, data("D")))))}
	for _, s := range sorts {
		sort.Text(s)
		for _, g := range sigs {
			sort.Check(s, g)
			sort.Finite(s, g)
			for _, most := range []int{-1, 0, 1, 9} {
				sort.Count(s, g, most)
			}
		}
		for _, u := range sorts {
			sort.Same(s, u)
		}
	}
	for _, g := range sigs {
		sort.CheckSig(g)
		sort.Ground(g)
	}
}
