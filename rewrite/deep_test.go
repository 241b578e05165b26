package rewrite_test

import (
	"fmt"
	"math/big"
	"slices"
	"testing"

	"tribunal/api"
	"tribunal/rewrite"
)

// deep is how many terms are nested in one another here.
const deep = 1 << 16

// nested is a term that was wrapped again and again.
func nested(i int, wrap func(i, k int) int) int {
	for k := range deep {
		i = wrap(i, k)
	}
	return i
}

// apply is a term to which a function or a constructor is applied again and again, behind other arguments.
func (w *world) apply(op api.Op, name string, i int, ahead ...int) int {
	return nested(i, func(i, _ int) int {
		return w.put(api.Node{Op: op, Name: name, Args: append(slices.Clone(ahead), i)})
	})
}

// P12.1 of terms that are nested as deep as may be.
func TestDeepTerms(t *testing.T) {
	for what, pair := range map[string]func(w *world) (from, to int){
		"not": func(w *world) (int, int) { return w.apply(api.ONot, "", w.read("p")), w.read("p") },
		"and": func(w *world) (int, int) {
			return w.apply(api.OAnd, "", w.read("p"), w.read("q"), w.read("p")), w.read("(and q p)")
		},
		"xor": func(w *world) (int, int) {
			i := w.apply(api.OXor, "", w.read("p"), w.read("q"))
			return w.of(api.ONot, w.of(api.ONot, i)), i
		},
		"=>": func(w *world) (int, int) {
			return w.apply(api.OImplies, "", w.read("p"), w.read("q")), w.read("(or (not q) p)")
		},
		"+": func(w *world) (int, int) {
			return w.apply(api.OAdd, "", w.read("x"), w.read("x")), w.of(api.OMul, w.num(deep+1), w.read("x"))
		},
		"-":       func(w *world) (int, int) { return w.apply(api.OSub, "", w.read("x"), w.read("y")), w.read("x") },
		"minus":   func(w *world) (int, int) { return w.apply(api.OMinus, "", w.read("x")), w.read("x") },
		"bvnot":   func(w *world) (int, int) { return w.apply(api.OBvNot, "", w.read("b")), w.read("b") },
		"literal": func(w *world) (int, int) { return w.apply(api.OAdd, "", w.num(0), w.num(3)), w.num(3 * deep) },
		"f": func(w *world) (int, int) {
			return w.apply(api.OFun, "f", w.read("(+ x 0)")), w.apply(api.OFun, "f", w.read("x"))
		},
		"ite": func(w *world) (int, int) {
			p, x := w.read("p"), w.read("x")
			from := nested(x, func(i, k int) int { return w.of(api.OIte, w.of(api.ONot, p), i, w.num(int64(k))) })
			return from, nested(x, func(i, k int) int { return w.of(api.OIte, p, w.num(int64(k)), i) })
		},
		"store": func(w *world) (int, int) {
			a, x := w.read("a"), w.read("x")
			return nested(a, func(i, k int) int { return w.of(api.OStore, i, x, w.num(int64(k))) }), w.of(api.OStore, a, x, w.num(deep-1))
		},
		"select": func(w *world) (int, int) {
			a, x := w.read("a"), w.read("x")
			return w.of(api.OSelect, nested(a, func(i, k int) int { return w.of(api.OStore, i, w.num(int64(k)), x) }), w.num(-1)), w.read("(select a -1)")
		},
		"unlike lists": func(w *world) (int, int) {
			end, one, two := w.read("nil"), w.num(1), w.num(2)
			return w.of(api.OEq, w.apply(api.OCon, "cons", end, one), w.apply(api.OCon, "cons", end, two)), w.read("false")
		},
		"lists": func(w *world) (int, int) {
			end, x, y := w.read("nil"), w.read("x"), w.read("y")
			return w.of(api.OEq, w.apply(api.OCon, "cons", end, x), w.apply(api.OCon, "cons", end, y)), w.read("(= x y)")
		},
	} {
		t.Run(what, func(t *testing.T) {
			w := newWorld(t, some())
			w.simplifies(pair(w))
		})
	}
}

// The other calls at such terms.
func TestDeepOthers(t *testing.T) {
	w := newWorld(t, some())
	x, y := w.read("x"), w.read("y")
	ofX, ofY := w.apply(api.OFun, "f", x), w.apply(api.OFun, "f", y)
	if got, e := rewrite.Replace(w.Table, ofX, x, y); e != api.OK || got != ofY {
		t.Errorf("Replace: %d, error %d", got, e)
	}
	if got, e := rewrite.Replace(w.Table, ofX, x, ofY); e != api.OK || got != w.apply(api.OFun, "f", ofY) {
		t.Errorf("Replace: %d, error %d", got, e)
	}
	if terms, nodes, e := rewrite.Size(w.Table, ofX); terms != deep+1 || nodes != deep+1 || e != api.OK {
		t.Errorf("Size: %d, %d, error %d", terms, nodes, e)
	}
	minus := w.of(api.OMul, w.num(-1), y)
	w.basics(nested(x, func(i, _ int) int { return w.of(api.OSub, i, y) }), nested(x, func(i, _ int) int { return w.of(api.OAdd, i, minus) }))
	p, q := w.read("p"), w.read("q")
	both := nested(p, func(i, _ int) int { return w.of(api.ONot, w.of(api.OOr, w.of(api.ONot, i), w.of(api.ONot, q))) })
	if got, e := rewrite.Conjuncts(w.Table, both); e != api.OK || !slices.Equal(got, []int{p, q}) {
		t.Errorf("Conjuncts: %v, error %d", got, e)
	}
}

// Long chains of many unlike ones: what is too many for one is taken in 64 at a time.
func TestLongChains(t *testing.T) {
	const many = 2000
	w := newWorld(t, crowd(many))
	ps, xs := "p0", "x0"
	var deepPs, deepXs = w.read(ps), w.read(xs)
	for k := 1; k < many; k++ {
		deepPs = w.of(api.OAnd, w.fun(fmt.Sprint("p", k)), deepPs)
		deepXs = w.of(api.OAdd, w.fun(fmt.Sprint("x", k)), deepXs)
	}
	for _, root := range []int{deepPs, deepXs} {
		got, e := rewrite.Simplify(w.Table, root)
		if e != api.OK {
			t.Fatalf("error %d", e)
		}
		n, _ := w.Node(got)
		terms, _, _ := rewrite.Size(w.Table, got)
		if terms != many+many/63+1 || len(n.Args) > api.MaxArgs {
			t.Errorf("%d terms, %d arguments at the top", terms, len(n.Args))
		}
		if again, e := rewrite.Simplify(w.Table, got); again != got || e != api.OK {
			t.Errorf("again: %d, error %d", again, e)
		}
	}
	list, e := rewrite.Conjuncts(w.Table, deepPs)
	if e != api.OK || len(list) != many {
		t.Fatalf("%d conjuncts, error %d", len(list), e)
	}
	for k, i := range list {
		if i != w.fun(fmt.Sprint("p", many-1-k)) {
			t.Fatalf("conjunct %d: %s", k, w.form(i))
		}
	}
}

// Terms that would be very great, written out.
func TestSharedTerms(t *testing.T) {
	w := newWorld(t, some())
	twice := func(i int, wrap func(i int) int) int {
		for range 200 {
			i = wrap(i)
		}
		return i
	}
	p, q, x, y, b, d := w.read("p"), w.read("q"), w.read("x"), w.read("y"), w.read("b"), w.read("d")
	pow := new(big.Int).Lsh(big.NewInt(1), 200)
	simplified := func(from, to int) {
		t.Helper()
		if got, e := rewrite.Simplify(w.Table, from); got != to || e != api.OK {
			t.Errorf("%d, error %d; want %d", got, e, to)
		}
	}
	simplified(twice(x, func(i int) int { return w.of(api.OAdd, i, i) }), w.of(api.OMul, w.great(pow), x))
	simplified(twice(p, func(i int) int { return w.of(api.OAnd, i, i, q) }), w.of(api.OAnd, p, q))
	k := func(i int) int { return w.put(api.Node{Op: api.OFun, Name: "k", Args: []int{i, i}}) }
	simplified(twice(w.of(api.OBvAnd, b, b), k), twice(b, k))
	xor := func(i int) int { return w.of(api.OXor, i, w.of(api.OXor, i, q)) }
	simplified(twice(w.of(api.OAnd, p, p), xor), twice(p, xor))
	if got, e := rewrite.Replace(w.Table, twice(b, k), b, d); got != twice(d, k) || e != api.OK {
		t.Errorf("Replace: %d, error %d", got, e)
	}
	sub := func(i int) int { return w.of(api.OSub, i, i) }
	if got, e := rewrite.Basic(w.Table, twice(y, sub)); e != api.OK || got != twice(y, func(i int) int { return w.of(api.OAdd, i, w.of(api.OMul, w.num(-1), i)) }) {
		t.Errorf("Basic: %d, error %d", got, e)
	}
	and := twice(p, func(i int) int {
		return w.of(api.OAnd, i, w.of(api.ONot, w.of(api.OOr, w.of(api.ONot, i), w.of(api.ONot, q))), i)
	})
	if got, e := rewrite.Conjuncts(w.Table, and); e != api.OK || !slices.Equal(got, []int{p, q}) {
		t.Errorf("Conjuncts: %v, error %d", got, e)
	}
}
