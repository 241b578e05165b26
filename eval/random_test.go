package eval_test

import (
	"testing"

	"tribunal/api"
	"tribunal/eval"
	"tribunal/term"
	"tribunal/value"
)

// madeUp is a table of so many terms over a signature, and of each Op how many.
func (d *dice) madeUp(t *testing.T, g api.Sig, many int) (*term.Table, map[api.Op]int) {
	t.Helper()
	b := tableOf(t, g)
	for _, f := range g.Funs { // so that there are terms of each sort
		if len(f.Args) == 0 {
			call(t, b, f.Name)
		}
	}
	has := map[api.Op]int{}
	for b.Len() < many {
		op := pick(d, ops())
		before := b.Len()
		if _, e := b.Add(d.node(b, g, op)); e == api.OK && b.Len() > before {
			has[op]++
		}
	}
	return b, has
}

// P11.3: all terms of made-up tables under made-up interpretations, held against the model.
func TestMadeUpTerms(t *testing.T) {
	g := some()
	d := &dice{11}
	has := map[api.Op]int{}
	for range 300 {
		b, ops := d.madeUp(t, g, 150)
		for op, n := range ops {
			has[op] += n
		}
		in := d.interp(g)
		m := newModel(b, g, in)
		var roots []int
		for i := range b.Len() {
			roots = append(roots, i)
		}
		got, e := eval.Terms(b, in, roots...)
		if e != api.OK || len(got) != len(roots) {
			t.Fatalf("%d values of %d terms, error %d", len(got), len(roots), e)
		}
		for i, v := range got {
			if want := m.norm(i); !alike(v, want) {
				s, _ := b.Sort(i)
				t.Fatalf("%s: %.400s; want %.400s", written(b, i), text(v, s, g), text(want, s, g))
			}
		}
		for range 6 { // roots in any order, some twice
			roots = roots[:0]
			holds, truths := true, true
			for range d.below(5) {
				i := d.below(b.Len())
				roots = append(roots, i)
				truths = truths && got[i].Kind == api.VBool
				holds = holds && got[i].Bool
			}
			some, e := eval.Terms(b, in, roots...)
			if e != api.OK || len(some) != len(roots) {
				t.Fatalf("%d values of %v, error %d", len(some), roots, e)
			}
			for k, i := range roots {
				if !alike(some[k], got[i]) {
					t.Fatalf("Terms(%v) at %d: %.400s; alone %.400s", roots, k, show(some[k]), show(got[i]))
				}
			}
			want := api.OK
			if !truths {
				holds, want = false, api.ErrSorts
			}
			if is, e := eval.Holds(b, in, roots...); is != holds || e != want {
				t.Fatalf("Holds(%v): %v, error %d; want %v, error %d", roots, is, e, holds, want)
			}
		}
	}
	for _, op := range ops() {
		if least := 20; has[op] < least && op != api.OTrue && op != api.OFalse {
			t.Errorf("Op %d stands in %d of the tables' terms; want %d", op, has[op], least)
		}
	}
}

// P11.2: functions and selectors at made-up arguments, held against the model.
func TestMadeUpArguments(t *testing.T) {
	g := some()
	d := &dice{12}
	for range 40 {
		in := d.interp(g)
		m := newModel(nil, g, in)
		for _, name := range allNames(g) {
			sorts, ret, _, _ := m.declared(name)
			for range 5 {
				var args []api.Value
				for _, s := range sorts {
					args = append(args, d.value(g, s, 2))
				}
				for _, f := range in.Funs { // often those of a Case
					if f.Name == name && len(f.Cases) > 0 && d.below(2) == 0 {
						for i, v := range pick(d, f.Cases).Args {
							args[i] = d.formed(g, v, sorts[i])
						}
					}
				}
				want, e := value.Norm(m.function(name, args), ret, g)
				if e != api.OK {
					t.Fatal("no normal form")
				}
				isAt(t, g, in, want, name, args...)
			}
		}
	}
}

// allNames are those of the functions and of the selectors.
func allNames(g api.Sig) []string {
	var list []string
	for _, f := range g.Funs {
		list = append(list, f.Name)
	}
	for _, d := range g.Datas {
		for _, c := range d.Cons {
			for _, s := range c.Sels {
				list = append(list, s.Name)
			}
		}
	}
	return list
}
