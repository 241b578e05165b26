package rewrite_test

import (
	"math"
	"math/big"
	"reflect"
	"slices"
	"testing"

	"tribunal/api"
	"tribunal/rewrite"
	"tribunal/term"
)

// outcome is what a call answers, beside the error.
type outcome struct {
	list []int
	err  api.Errno
}

// calls are all of the package, each for one term; Replace has it at each of its places.
func calls() map[string]func(b *term.Table, i int) outcome {
	one := func(i int, e api.Errno) outcome {
		if i == 0 && e != api.OK {
			return outcome{nil, e}
		}
		return outcome{[]int{i}, e}
	}
	return map[string]func(b *term.Table, i int) outcome{
		"Simplify":     func(b *term.Table, i int) outcome { return one(rewrite.Simplify(b, i)) },
		"Basic":        func(b *term.Table, i int) outcome { return one(rewrite.Basic(b, i)) },
		"Replace":      func(b *term.Table, i int) outcome { return one(rewrite.Replace(b, i, 0, 0)) },
		"Replace from": func(b *term.Table, i int) outcome { return one(rewrite.Replace(b, 0, i, 0)) },
		"Replace to":   func(b *term.Table, i int) outcome { return one(rewrite.Replace(b, 0, 0, i)) },
		"Replace all":  func(b *term.Table, i int) outcome { return one(rewrite.Replace(b, i, i, i)) },
		"Conjuncts": func(b *term.Table, i int) outcome {
			list, e := rewrite.Conjuncts(b, i)
			return outcome{list, e}
		},
		"Size": func(b *term.Table, i int) outcome {
			terms, nodes, e := rewrite.Size(b, i)
			if terms == 0 && nodes == 0 {
				return outcome{nil, e}
			}
			return outcome{[]int{terms, nodes}, e}
		},
	}
}

// A table that is nil, or that New did not make: ErrNil, whatever else is wrong.
func TestNoTable(t *testing.T) {
	good := newWorld(t, some())
	p := good.read("(and p true)")
	copied := *good.Table
	for what, b := range map[string]*term.Table{"nil": nil, "a bare one": {}, "a copy": &copied} {
		for name, call := range calls() {
			for _, i := range []int{p, 0, -1, 99, math.MaxInt, math.MinInt} {
				if got := call(b, i); len(got.list) != 0 || got.err != api.ErrNil {
					t.Errorf("%s: %s of %d: %v, error %d", what, name, i, got.list, got.err)
				}
			}
		}
	}
	good.simplify("(and p true) : p")
}

// Numbers that are no term's: ErrArg, ahead of ErrSorts.
func TestNoTerm(t *testing.T) {
	w := newWorld(t, some())
	empty, e := term.New(some())
	if e != api.OK {
		t.Fatal(e)
	}
	w.read("(+ x y)")
	w.read("(and p true)")
	before := w.Len()
	for name, call := range calls() {
		for _, i := range []int{-1, before, before + 1, math.MaxInt, math.MinInt} {
			if got := call(w.Table, i); len(got.list) != 0 || got.err != api.ErrArg {
				t.Errorf("%s of %d: %v, error %d", name, i, got.list, got.err)
			}
		}
		if got := call(empty, 0); len(got.list) != 0 || got.err != api.ErrArg {
			t.Errorf("%s of an empty table: %v, error %d", name, got.list, got.err)
		}
	}
	x, p := w.read("x"), w.read("p")
	for _, list := range [][3]int{{before, x, p}, {-1, x, p}, {x, p, before}, {x, -1, p}} {
		if i, e := rewrite.Replace(w.Table, list[0], list[1], list[2]); i != 0 || e != api.ErrArg {
			t.Errorf("Replace of %v: %d, error %d", list, i, e)
		}
	}
	if w.Len() != before || empty.Len() != 0 {
		t.Error("a table is changed")
	}
}

// filled puts numbers into a table till it is full.
func (w *world) filled() {
	for n := int64(1 << 40); w.Len() < api.MaxTerms; n++ {
		w.put(api.Node{Op: api.ONum, Int: api.Int{Mag: api.Nat{uint64(n)}}})
	}
}

// full is a table of the texts' terms that has no room for more, and these terms.
func full(t *testing.T, texts ...string) (*world, map[string]int) {
	t.Helper()
	w := newWorld(t, some())
	terms := map[string]int{}
	for _, text := range texts {
		terms[text] = w.read(text)
	}
	w.filled()
	return w, terms
}

// In a table that is full, what needs no other terms is still answered.
func TestFullTable(t *testing.T) {
	lines := [][2]string{
		{"x", "x"}, {"(and p q)", "(and p q)"}, {"(and p (and p q))", "(and p q)"}, {"(and r (not r))", "false"}, {"(not (not p))", "p"}, {"(or p true)", "true"}, {"(xor p false)", "p"}, {"(ite p x x)", "x"}, {"(= p true)", "p"}, {"(distinct x x)", "false"},
		{"(+ x 0)", "x"}, {"(+ 1 2)", "3"}, {"(+ x (* 2 x))", "(* 3 x)"}, {"(<= x x)", "true"}, {"(f (+ x 0))", "(f x)"}, {"(bvand b b)", "b"}, {"(head (cons x l))", "x"}, {"(store a x (select a x))", "a"},
	}
	basic := []string{"(bvnot (bvnot b))", "(* 2 x)", "(and (and p q) true)", "(distinct x y)", "(- 5)"}
	texts := append([]string{"(not (= x y))", "-5", "(= (+ x y) (+ x x))", "(= (+ y y) (+ y y))", "y", "(and p (not (or false (not q))))", "(and p (not p) (not (or q (h u r))))"}, basic...)
	for _, line := range lines {
		texts = append(texts, line[0], line[1])
	}
	w, i := full(t, texts...)
	for _, line := range lines {
		w.simplifies(i[line[0]], i[line[1]])
	}
	for _, text := range basic[:3] {
		w.basics(i[text], i[text])
	}
	w.basics(i["(distinct x y)"], i["(not (= x y))"])
	w.basics(i["(- 5)"], i["-5"])
	if got, e := rewrite.Conjuncts(w.Table, i["(and p (not (or false (not q))))"]); !slices.Equal(got, []int{w.read("p"), w.read("q")}) || e != api.OK {
		t.Errorf("Conjuncts: %v, error %d", got, e)
	}
	if got, e := rewrite.Conjuncts(w.Table, i["(and p (not p) (not (or q (h u r))))"]); !slices.Equal(got, []int{i["false"]}) || e != api.OK {
		t.Errorf("Conjuncts: %v, error %d", got, e)
	}
	whole, other := i["(= (+ x y) (+ x x))"], i["(= (+ y y) (+ y y))"]
	for _, c := range []struct{ in, from, to, want int }{{whole, i["x"], i["y"], other}, {whole, whole, other, other}, {whole, i["p"], w.read("q"), whole}, {whole, i["x"], i["x"], whole}} {
		if got, e := rewrite.Replace(w.Table, c.in, c.from, c.to); got != c.want || e != api.OK {
			t.Errorf("Replace: %d, error %d", got, e)
		}
	}
	if terms, nodes, e := rewrite.Size(w.Table, whole); terms != 5 || nodes != 7 || e != api.OK {
		t.Errorf("Size: %d, %d, error %d", terms, nodes, e)
	}
	if w.Len() != api.MaxTerms {
		t.Errorf("%d terms", w.Len())
	}
}

// Where there is no room for what is to be answered: ErrMany, and nothing beside it.
func TestNoRoom(t *testing.T) {
	simple := []string{"(< y x)", "(and p r true)", "(+ x x)", "(=> p q)", "(= (cons x l) (cons y m))", "(distinct u v w)", "(bvnand b d)", "(+ 7 8)", "(xor p true)", "(select (store a 1 x) 2)", "(bvsub b b)", "(f (- x x))", "(- x (+ (* 5 y) (* -3 z)))"}
	basic := []string{"(or p r)", "(- y)", "(xor q r)", "(f (- y))", "(distinct u v)", "(- x y)", "(bvsub b d)", "(>= x y)", "(=> p r)"}
	texts := append(append([]string{"p", "q", "true", "3", "(* 3 z)", "(not (or p (h u r)))", "(= (+ x y) (+ x x))"}, simple...), basic...)
	w, i := full(t, texts...)
	for _, text := range simple {
		if got, e := rewrite.Simplify(w.Table, i[text]); got != 0 || e != api.ErrMany {
			t.Errorf("Simplify of %s: %d, error %d", text, got, e)
		}
	}
	for _, text := range basic {
		if got, e := rewrite.Basic(w.Table, i[text]); got != 0 || e != api.ErrMany {
			t.Errorf("Basic of %s: %d, error %d", text, got, e)
		}
	}
	if got, e := rewrite.Conjuncts(w.Table, i["(not (or p (h u r)))"]); len(got) != 0 || e != api.ErrMany {
		t.Errorf("Conjuncts: %v, error %d", got, e)
	}
	if got, e := rewrite.Replace(w.Table, i["(= (+ x y) (+ x x))"], w.read("y"), w.read("x")); got != 0 || e != api.ErrMany {
		t.Errorf("Replace: %d, error %d", got, e)
	}
	if w.Len() != api.MaxTerms {
		t.Errorf("%d terms", w.Len())
	}
}

// Where the simpler form would be made of too many terms, that is ErrMany, and soon: sums of sums that are too great to be taken in, each time other multiples of those below.
func TestTooGreatForms(t *testing.T) {
	w := newWorld(t, crowd(80))
	a, b := w.read("(+ "+row("x", 0, 40)+")"), w.read("(+ "+row("x", 40, 80)+")")
	prime := big.NewInt(1)
	times := func(i int) int {
		for prime.Add(prime, big.NewInt(1)); !prime.ProbablyPrime(0); prime.Add(prime, big.NewInt(1)) {
		}
		return w.of(api.OMul, w.great(prime), i)
	}
	for range 40 {
		a, b = w.of(api.OAdd, times(a), times(b)), w.of(api.OAdd, times(a), times(b))
	}
	if got, e := rewrite.Simplify(w.Table, a); got != 0 || e != api.ErrMany {
		t.Errorf("%d, error %d", got, e)
	}
}

// A call answers the same again, behind other calls, with terms put in between, and in another table that has the same terms at other places; no term that stood in a table is changed.
func TestTableIsKept(t *testing.T) {
	for seed := range uint64(8) {
		w, k, list := made(t, seed+900, 60)
		other := newWorld(t, some())
		before := nodesOf(w)
		for _, i := range list {
			j := other.read(w.form(i))
			for _, name := range []string{"Simplify", "Basic", "Replace all", "Conjuncts", "Size"} {
				call := calls()[name]
				first := call(w.Table, i)
				told := slices.Clone(first.list)
				scribble(first.list)
				k.term(k.anySort(), 2)
				second, there := call(w.Table, i), call(other.Table, j)
				if !slices.Equal(told, second.list) || first.err != second.err || second.err != there.err || len(second.list) != len(there.list) {
					t.Fatalf("%s of %s: %v, then %v; elsewhere %v", name, w.form(i), told, second, there)
				}
				for n, m := range second.list {
					if name == "Size" && m != there.list[n] || name != "Size" && w.form(m) != other.form(there.list[n]) {
						t.Fatalf("%s of %s: %d, elsewhere %d", name, w.form(i), m, there.list[n])
					}
				}
			}
		}
		if after := nodesOf(w); !reflect.DeepEqual(after[:len(before)], before) || !reflect.DeepEqual(w.Sig(), some()) {
			t.Fatal("the table is changed")
		}
	}
}

func nodesOf(w *world) []api.Node {
	var list []api.Node
	for i := range w.Len() {
		n, _ := w.Node(i)
		list = append(list, n)
	}
	return list
}

// scribble turns all of a list's memory, its spare room too.
func scribble(list []int) {
	list = list[:cap(list)]
	for k := range list {
		list[k] = -77
	}
}
