package eval_test

import (
	"fmt"
	"slices"
	"testing"

	"tribunal/api"
	"tribunal/eval"
	"tribunal/term"
)

// told is what some terms are.
func told(t *testing.T, b *term.Table, in api.Interp, roots ...int) []api.Value {
	t.Helper()
	list, e := eval.Terms(b, in, roots...)
	if e != api.OK || len(list) != len(roots) {
		t.Fatalf("%d values of %d roots, error %d", len(list), len(roots), e)
	}
	return list
}

func agree(t *testing.T, what string, a, b []api.Value) {
	t.Helper()
	for i := range a {
		if !alike(a[i], b[i]) {
			t.Fatalf("%s: %.300s, and %.300s", what, show(a[i]), show(b[i]))
		}
	}
}

// A term and its negation are never both true; a conjunction is true just if all are, a disjunction just if one is.
func TestNegationAndConjunction(t *testing.T) {
	g := some()
	d := &dice{21}
	both := 0
	for range 60 {
		b, _ := d.madeUp(t, g, 120)
		in := d.interp(g)
		var bools []int
		for i := range b.Len() {
			if s, _ := b.Sort(i); s.Kind == api.KBool {
				bools = append(bools, i)
			}
		}
		for range 8 {
			var some []int
			for range 2 + d.below(4) {
				some = append(some, pick(d, bools))
			}
			not, and, or := app(t, b, api.ONot, some[0]), app(t, b, api.OAnd, some...), app(t, b, api.OOr, some...)
			v := told(t, b, in, append([]int{not, and, or}, some...)...)
			all, one := true, false
			for _, x := range v[3:] {
				all, one = all && x.Bool, one || x.Bool
			}
			if v[0].Bool == v[3].Bool || v[1].Bool != all || v[2].Bool != one {
				t.Fatalf("%s: %v, its negation %v; conjunction %v, disjunction %v", written(b, some[0]), v[3].Bool, v[0].Bool, v[1].Bool, v[2].Bool)
			}
			holds(t, b, in, all, some...)
			holds(t, b, in, all, and)
			holds(t, b, in, false, some[0], not)
			holds(t, b, in, false, and, not)
			if all {
				both++
			}
		}
	}
	if both < 20 {
		t.Errorf("%d conjunctions were true", both)
	}
}

// P11.5: a term is what it is with constants in the place of its arguments that are the same values.
func TestByItsParts(t *testing.T) {
	g := some()
	d := &dice{22}
	for range 25 {
		b, _ := d.madeUp(t, g, 100)
		in := d.interp(g)
		var all []int
		for i := range b.Len() {
			all = append(all, i)
		}
		vals := told(t, b, in, all...)
		h, also := g, api.Interp{Funs: slices.Clone(in.Funs)}
		h.Funs = slices.Clone(g.Funs)
		for i, v := range vals {
			s, _ := b.Sort(i)
			name := fmt.Sprint("value ", i)
			h.Funs = append(h.Funs, fun(name, s))
			also.Funs = append(also.Funs, funval(name, d.formed(g, v, s)))
		}
		c := tableOf(t, h)
		var apart []int
		for i := range vals {
			n, _ := b.Node(i)
			for k, arg := range n.Args {
				n.Args[k] = call(t, c, fmt.Sprint("value ", arg))
				if k == 1 && (n.Op == api.ODiv || n.Op == api.OMod) || n.Op == api.OMul { // the numeral stays
					n.Args[k] = copied(t, b, c, arg)
				}
			}
			apart = append(apart, put(t, c, n))
		}
		agree(t, "by its parts", told(t, c, also, apart...), vals)
	}
}

// copied is a term of another table over no less.
func copied(t *testing.T, from, to *term.Table, i int) int {
	t.Helper()
	n, _ := from.Node(i)
	for k, arg := range n.Args {
		n.Args[k] = copied(t, from, to, arg)
	}
	return put(t, to, n)
}

// P11.5: functions that stand in no term of the roots play no part, nor do other terms of the table, nor what is declared besides.
func TestWhatPlaysNoPart(t *testing.T) {
	g := some()
	d := &dice{23}
	for range 40 {
		b, _ := d.madeUp(t, g, 100)
		in, other := d.interp(g), d.interp(g)
		var roots []int
		for range 3 {
			roots = append(roots, d.below(b.Len()))
		}
		names := map[string]bool{}
		for _, i := range b.Below(roots...) {
			n, _ := b.Node(i)
			names[n.Name] = true
		}
		var swapped api.Interp
		for _, f := range in.Funs {
			if names[f.Name] {
				swapped.Funs = append(swapped.Funs, f)
			}
		}
		want := told(t, b, in, roots...)
		agree(t, "without the functions that stand in none", told(t, b, swapped, roots...), want)
		for _, f := range other.Funs {
			if !names[f.Name] {
				swapped.Funs = append(swapped.Funs, f)
			}
		}
		swapped.Funs = mixed(d, swapped.Funs)
		agree(t, "with other functions that stand in none", told(t, b, swapped, roots...), want)

		h := g
		h.Users = append([]string{"other"}, g.Users...)
		h.Datas = append(slices.Clone(g.Datas), datatype("Other", con("other", sel("others", data("Shape")))))
		h.Funs = append([]api.Fun{fun("one more", user("other"), data("Other"))}, g.Funs...)
		c := tableOf(t, h)
		for range 10 {
			c.Add(d.node(c, h, pick(d, ops())))
		}
		var there []int
		for _, i := range roots {
			there = append(there, copied(t, b, c, i))
		}
		agree(t, "in another table", told(t, c, in, there...), want)
	}
}

// P11.6: Cases behind one with the same Args play no part; nor does the order of Cases with unlike Args.
func TestCasesInAnyOrder(t *testing.T) {
	g := some()
	d := &dice{24}
	m := newModel(nil, g, funs())
	for range 60 {
		b, _ := d.madeUp(t, g, 100)
		in := d.interp(g)
		var roots []int
		for i := range b.Len() {
			roots = append(roots, i)
		}
		want := told(t, b, in, roots...)
		turned := api.Interp{Funs: mixed(d, in.Funs)}
		for i, f := range turned.Funs {
			sorts, ret, _, _ := m.declared(f.Name)
			var first []api.Case
			for _, c := range f.Cases {
				if !slices.ContainsFunc(first, func(k api.Case) bool { return sameArgs(m, k, c, sorts) }) {
					first = append(first, c)
				}
			}
			cases := mixed(d, first)
			for range d.below(4) * min(1, len(cases)) { // behind one with the same Args
				at := d.below(len(cases))
				again := kase(d.value(g, ret, 2))
				for k, v := range cases[at].Args {
					again.Args = append(again.Args, d.formed(g, v, sorts[k]))
				}
				cases = slices.Insert(cases, at+1+d.below(len(cases)-at), again)
			}
			turned.Funs[i].Cases = cases
		}
		agree(t, "Cases in another order", told(t, b, turned, roots...), want)
	}
}

func sameArgs(m *model, a, b api.Case, sorts []api.Sort) bool {
	for i, s := range sorts {
		if !m.same(a.Args[i], b.Args[i], s) {
			return false
		}
	}
	return true
}
