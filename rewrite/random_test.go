package rewrite_test

import (
	"fmt"
	"slices"
	"testing"

	"tribunal/api"
	"tribunal/rewrite"
)

// made is a table of made-up terms, with the numbers of some.
func made(t *testing.T, seed uint64, many int) (*world, *maker, []int) {
	t.Helper()
	w := newWorld(t, some())
	k := newMaker(seed, w.Table)
	var list []int
	for range many {
		list = append(list, k.term(k.anySort(), 4))
	}
	return w, k, list
}

// asModel asks that Simplify and Basic answer what the model does.
func (w *world) asModel(m *model, i int) {
	w.Helper()
	x := w.tree(i)
	got, e := rewrite.Simplify(w.Table, i)
	if want := m.simple(x); e != api.OK || w.tree(got).text != want.text {
		w.Fatalf("Simplify of %s: %s, error %d; want %s", cut(x.text), cut(w.form(got)), e, cut(want.text))
	}
	w.simplifies(got, got)
	got, e = rewrite.Basic(w.Table, i)
	if want := m.basic(x); e != api.OK || w.tree(got).text != want.text {
		w.Fatalf("Basic of %s: %s, error %d; want %s", cut(x.text), cut(w.form(got)), e, cut(want.text))
	}
	w.basics(got, got)
}

// P12.1, P12.2, P12.7: made-up terms, held against the chapter's words, line by line.
func TestMadeUpTerms(t *testing.T) {
	m := newModel(t, some())
	for seed := range uint64(80) {
		w, _, list := made(t, seed, 120)
		for _, i := range list {
			w.asModel(m, i)
		}
	}
	for _, x := range m.turns {
		if m.used[x.line] == 0 {
			t.Errorf("nothing was turned by %s", x.line)
		}
	}
	for _, x := range m.few {
		if m.used["basic "+x.line] < 10 {
			t.Errorf("%d terms in other operators by %s", m.used["basic "+x.line], x.line)
		}
	}
}

// P12.1, rules 3, 7 and 8 of many arguments, around the limit.
func TestMadeUpCrowds(t *testing.T) {
	g := crowd(90)
	m := newModel(t, g)
	for seed := range uint64(150) {
		w := newWorld(t, g)
		d := &dice{seed + 5000}
		lead := api.Op(0)
		var grow func(letter string, depth int) int
		many := func(letter string, n, depth int) []int {
			var list []int
			from := d.below(90)
			for k := range n {
				if d.below(25) == 0 {
					list = append(list, grow(letter, depth-1))
				} else {
					list = append(list, w.fun(fmt.Sprint(letter, (from+k)%90)))
				}
			}
			return list
		}
		grow = func(letter string, depth int) int {
			n := pick(d, []int{2, 3, 20, 30, 31, 32, 33, 34, 35, 60, 62, 63, 64})
			one := w.fun(fmt.Sprint(letter, d.below(90)))
			switch letter {
			case "p":
				switch d.below(9) {
				case 0:
					return w.of(api.ONot, one)
				case 1:
					return w.of(api.OTrue + api.Op(d.below(2)))
				case 2:
					return one
				}
				if depth <= 0 {
					return one
				}
				op := lead
				if d.below(9) == 0 {
					op = api.OAnd + api.OOr - lead
				}
				return w.of(op, many(letter, n, depth-1)...)
			}
			switch d.below(12) {
			case 0:
				return w.num(int64(d.below(5) - 2))
			case 1:
				return w.of(api.OMul, w.num(int64(d.below(5)-2)), grow(letter, depth-1))
			case 2:
				return w.of(api.OMinus, grow(letter, depth-1))
			case 3:
				if depth > 0 {
					return w.of(api.OSub, grow(letter, depth-1), grow(letter, depth-1))
				}
			}
			if depth <= 0 {
				return one
			}
			return w.of(api.OAdd, many(letter, n, depth-1)...)
		}
		for range 6 {
			lead = api.OAnd + api.Op(d.below(2))
			w.asModel(m, grow("p", 4))
			w.asModel(m, grow("x", 4))
		}
		w.asModel(m, w.of(api.ODistinct, many("x", 9+d.below(5), 1)...))
	}
}

// P12.3: Replace of made-up terms in others, held against the texts.
func TestMadeUpReplace(t *testing.T) {
	outcomes := map[api.Errno]int{}
	changed := 0
	for seed := range uint64(60) {
		w, k, list := made(t, seed+2000, 60)
		for _, i := range list {
			below := w.Below(i)
			from := pick(k.dice, below)
			s, _ := w.Sort(from)
			to := k.term(s, 2)
			if k.below(9) == 0 {
				to = k.term(k.anySort(), 2)
			}
			want, wantErr := replaced(w, i, from, to)
			got, e := rewrite.Replace(w.Table, i, from, to)
			outcomes[e]++
			if e != wantErr || got != want {
				t.Fatalf("%s in the place of %s in %s: %s, error %d; want %s, error %d", w.form(to), w.form(from), w.form(i), w.form(got), e, w.form(want), wantErr)
			}
			if e == api.OK && got != i {
				changed++
			}
		}
	}
	if outcomes[api.OK] < 1000 || outcomes[api.ErrSorts] < 50 || outcomes[api.ErrLinear] < 20 || len(outcomes) != 3 || changed < 1000 {
		t.Errorf("%v, %d changed", outcomes, changed)
	}
}

// replaced is Replace by the terms' texts.
func replaced(w *world, i, from, to int) (int, api.Errno) {
	a, _ := w.Sort(from)
	b, _ := w.Sort(to)
	if fmt.Sprint(a) != fmt.Sprint(b) {
		return 0, api.ErrSorts
	}
	if i == from {
		return to, api.OK
	}
	n, _ := w.Node(i)
	for k, arg := range n.Args {
		j, e := replaced(w, arg, from, to)
		if e != api.OK {
			return 0, e
		}
		n.Args[k] = j
	}
	return w.Add(n)
}

// P12.4: conjuncts of made-up Bools.
func TestMadeUpConjuncts(t *testing.T) {
	how := map[string]int{}
	for seed := range uint64(200) {
		w, k, _ := made(t, seed+3000, 10)
		for range 30 {
			i := k.term(boolean, 6)
			if k.below(2) == 0 {
				i = w.of(api.ONot, i)
			}
			want := conjuncts(w, i)
			got, e := rewrite.Conjuncts(w.Table, i)
			if e != api.OK || !slices.Equal(got, want) {
				t.Fatalf("Conjuncts of %s: %v, error %d; want %v", w.form(i), got, e, want)
			}
			switch {
			case len(want) > 2:
				how["many"]++
			case len(want) == 0:
				how["none"]++
			case w.form(want[0]) == "false":
				how["false"]++
			case want[0] != i:
				how["another"]++
			}
		}
	}
	for _, what := range []string{"many", "none", "false", "another"} {
		if how[what] < 40 {
			t.Errorf("%s: %d", what, how[what])
		}
	}
}

// conjuncts are those of the chapter's words.
func conjuncts(w *world, i int) []int {
	yes, no := w.of(api.OTrue), w.of(api.OFalse)
	neg := func(i int) int {
		switch n, _ := w.Node(i); n.Op {
		case api.OTrue:
			return no
		case api.OFalse:
			return yes
		case api.ONot:
			return n.Args[0]
		}
		return w.of(api.ONot, i)
	}
	var under func(i int) []int
	under = func(i int) []int {
		n, _ := w.Node(i)
		var list []int
		switch n.Op {
		case api.OAnd:
			for _, arg := range n.Args {
				list = append(list, under(arg)...)
			}
			return list
		case api.ONot:
			in, _ := w.Node(n.Args[0])
			switch in.Op {
			case api.OOr:
				for _, arg := range in.Args {
					list = append(list, under(neg(arg))...)
				}
				return list
			case api.ONot, api.OTrue, api.OFalse:
				return under(neg(n.Args[0]))
			}
		}
		return []int{i}
	}
	var list []int
	for _, j := range under(i) {
		if j != yes && !slices.Contains(list, j) {
			list = append(list, j)
		}
	}
	for _, j := range list {
		if j == no || slices.Contains(list, neg(j)) {
			return []int{no}
		}
	}
	return list
}

// P12.5: sizes of made-up terms, by their texts.
func TestMadeUpSizes(t *testing.T) {
	for seed := range uint64(20) {
		w, _, list := made(t, seed+4000, 60)
		for _, i := range list {
			parts := map[string]bool{}
			nodes := 0
			var walk func(x *tree)
			walk = func(x *tree) {
				parts[x.text] = true
				nodes++
				for _, arg := range x.args {
					walk(arg)
				}
			}
			walk(w.tree(i))
			if terms, many, e := rewrite.Size(w.Table, i); terms != len(parts) || many != nodes || e != api.OK {
				t.Fatalf("Size of %s: %d, %d, error %d; want %d, %d", w.form(i), terms, many, e, len(parts), nodes)
			}
		}
	}
}
