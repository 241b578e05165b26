package rewrite_test

import (
	"reflect"
	"slices"
	"testing"

	"tribunal/api"
	"tribunal/eval"
	"tribunal/rewrite"
	"tribunal/sort"
)

// values are what terms are under an interpretation, as far as layer 11 tells it.
func (w *world) values(in api.Interp, roots ...int) map[int]api.Value {
	w.Helper()
	found := map[int]api.Value{}
	if list, e := eval.Terms(w.Table, in, roots...); e == api.OK {
		for k, i := range roots {
			found[i] = list[k]
		}
		return found
	}
	for _, i := range roots {
		switch list, e := eval.Terms(w.Table, in, i); e {
		case api.OK:
			found[i] = list[0]
		case api.ErrBig, api.ErrMany:
		default:
			w.Fatalf("Terms of %s: error %d", w.form(i), e)
		}
	}
	return found
}

// alike asks that terms have the sorts of others, and the same values wherever layer 11 tells both.
func (w *world) alike(in api.Interp, what string, list, others []int) {
	w.Helper()
	vals := w.values(in, append(slices.Clone(list), others...)...)
	for k, i := range list {
		j := others[k]
		a, _ := w.Sort(i)
		b, _ := w.Sort(j)
		if !sort.Same(a, b) {
			w.Fatalf("%s: %s and %s are of unlike sorts", what, cut(w.form(i)), cut(w.form(j)))
		}
		v, one := vals[i]
		u, two := vals[j]
		if one && two && !reflect.DeepEqual(v, u) {
			w.Fatalf("%s: %s is %v, but %s is %v", what, cut(w.form(i)), v, cut(w.form(j)), u)
		}
	}
}

// P12.6: what Simplify and Basic answer has the term's sort, and under each interpretation the same value.
func TestSameValue(t *testing.T) {
	for seed := range uint64(80) {
		w, k, list := made(t, seed+6000, 60)
		var simple, basic []int
		for _, i := range list {
			j, e := rewrite.Simplify(w.Table, i)
			if e != api.OK {
				t.Fatalf("Simplify of %s: error %d", w.form(i), e)
			}
			simple = append(simple, j)
			if j, e = rewrite.Basic(w.Table, i); e != api.OK {
				t.Fatalf("Basic of %s: error %d", w.form(i), e)
			}
			basic = append(basic, j)
		}
		for range 6 {
			in := k.interp()
			w.alike(in, "Simplify", list, simple)
			w.alike(in, "Basic", list, basic)
		}
	}
}

// P12.8: a term is true just if all of its conjuncts are.
func TestTrueJustIfConjunctsAre(t *testing.T) {
	truths := map[bool]int{}
	for seed := range uint64(60) {
		w, k, _ := made(t, seed+7000, 10)
		var roots []int
		conjuncts := map[int][]int{}
		for range 40 {
			i := k.term(boolean, 5)
			list, e := rewrite.Conjuncts(w.Table, i)
			if e != api.OK {
				t.Fatalf("Conjuncts of %s: error %d", w.form(i), e)
			}
			conjuncts[i] = list
			roots = append(append(roots, i), list...)
		}
		for range 8 {
			vals := w.values(k.interp(), roots...)
			for i, list := range conjuncts {
				is, told := vals[i]
				all := true
				for _, j := range list {
					v, ok := vals[j]
					all, told = all && v.Bool, told && ok
				}
				if told && is.Bool != all {
					t.Fatalf("%s is %v, but its conjuncts are %v", w.form(i), is.Bool, all)
				}
				truths[all]++
			}
		}
	}
	if truths[true] < 500 || truths[false] < 500 {
		t.Errorf("%v", truths)
	}
}

// P12.9: where an interpretation makes both the same, Replace has the same value.
func TestReplaceOfSame(t *testing.T) {
	many, unlike := 0, 0
	for seed := range uint64(80) {
		w, k, list := made(t, seed+8000, 60)
		var in, from, to, out []int
		for _, i := range list {
			for range 4 {
				f := pick(k.dice, w.Below(i))
				s, _ := w.Sort(f)
				by := k.term(s, 2)
				if got, e := rewrite.Replace(w.Table, i, f, by); e == api.OK {
					in, from, to, out = append(in, i), append(from, f), append(to, by), append(out, got)
				}
			}
		}
		for range 3 {
			world := k.interp()
			vals := w.values(world, slices.Concat(from, to)...)
			var same, replaced []int
			for n := range from {
				v, one := vals[from[n]]
				u, two := vals[to[n]]
				if one && two && reflect.DeepEqual(v, u) {
					same, replaced = append(same, in[n]), append(replaced, out[n])
				} else {
					unlike++
				}
			}
			w.alike(world, "Replace", same, replaced)
			many += len(same)
		}
	}
	if many < 5000 || unlike < 5000 {
		t.Errorf("%d of the same, %d of others", many, unlike)
	}
}
