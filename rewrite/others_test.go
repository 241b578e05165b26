package rewrite_test

import (
	"math/big"
	"slices"
	"testing"

	"tribunal/api"
	"tribunal/rewrite"
)

// P12.2.
func TestBasic(t *testing.T) {
	w := newWorld(t, some())
	w.basic(
		"(xor p q) : (not (= p q))", "(xor p (xor q r)) : (not (= p (not (= q r))))", "(xor p true) : (not (= p true))",
		"(=> p q) : (not (and (not (not p)) (not q)))", "(=> (not p) q) : (not (and (not (not (not p))) (not q)))", "(=> p (=> q r)) : (not (and (not (not p)) (not (not (and (not (not q)) (not r))))))",
		"(or p q) : (not (and (not p) (not q)))", "(or p q r p) : (not (and (not p) (not q) (not r) (not p)))", "(or (not p) (or q r)) : (not (and (not (not p)) (not (not (and (not q) (not r))))))", "(or p false) : (not (and (not p) (not false)))",
		"(distinct x y) : (not (= x y))", "(distinct p q) : (not (= p q))", "(distinct x y z) : (and (not (= x y)) (not (= x z)) (not (= y z)))", "(distinct x x y) : (and (not (= x x)) (not (= x y)) (not (= x y)))", "(distinct (or p q) r) : (not (= (not (and (not p) (not q))) r))",
		"(< x y) : (not (<= y x))", "(>= x y) : (<= y x)", "(> x y) : (not (<= x y))", "(not (< x y)) : (not (not (<= y x)))", "(< x x) : (not (<= x x))",
		"(- x y) : (+ x (* -1 y))", "(- x 3) : (+ x (* -1 3))", "(- x x) : (+ x (* -1 x))", "(- (- x y) z) : (+ (+ x (* -1 y)) (* -1 z))",
		"(- x) : (* -1 x)", "(- (- x)) : (* -1 (* -1 x))", "(- 5) : -5", "(- -5) : 5", "(- 0) : 0", "(- (- 5)) : 5", "(- (+ 1 2)) : (* -1 (+ 1 2))", "(* (- 2) x) : (* -2 x)", "(* x (- 2)) : (* x -2)", "(div x (- 2)) : (div x -2)", "(mod x (- -2)) : (mod x 2)", "(* (- 2) (- x)) : (* -2 (* -1 x))",
		"(bvnand b d) : (bvnot (bvand b d))", "(bvnor b d) : (bvnot (bvor b d))", "(bvxnor b d) : (bvnot (bvxor b d))", "(bvsub b d) : (bvadd b (bvneg d))", "(bvsub b b) : (bvadd b (bvneg b))", "(bvnot (bvnand b d)) : (bvnot (bvnot (bvand b d)))",
		"(bvugt b d) : (not (bvule b d))", "(bvuge b d) : (bvule d b)", "(bvult b d) : (not (bvule d b))", "(bvsgt b d) : (not (bvsle b d))", "(bvsge b d) : (bvsle d b)", "(bvslt b d) : (not (bvsle d b))",
		// Where they stand within others, of any Op.
		"(f (- x)) : (f (* -1 x))", "(ite (< x y) (- x y) (- 3)) : (ite (not (<= y x)) (+ x (* -1 y)) -3)", "(select (store a (- x) 1) (- 7)) : (select (store a (* -1 x) 1) -7)", "(and (or p q) (xor p q)) : (and (not (and (not p) (not q))) (not (= p q)))", "(cons (- 1) (tail l)) : (cons -1 (tail l))", "((_ extract 1 0) (bvsub b d)) : ((_ extract 1 0) (bvadd b (bvneg d)))", "(= (> x y) p) : (= (not (<= x y)) p)", "(not (=> p q)) : (not (not (and (not (not p)) (not q))))", "((as const (Array Int Int)) (- x)) : ((as const (Array Int Int)) (* -1 x))", "((_ is cons) (ite (> x y) l m)) : ((_ is cons) (ite (not (<= x y)) l m))",
	)
}

// Ops that Basic does not turn, also where Simplify does.
func TestBasicTurnsNoOther(t *testing.T) {
	w := newWorld(t, some())
	for _, text := range []string{
		"true", "false", "p", "7", "-7", "#b01", "(not p)", "(not (not p))", "(and p q)", "(and p p true)", "(and (and p q) r)", "(= x y)", "(= p q)", "(= p true)", "(= x x)", "(= (cons x l) nil)", "(ite p x y)", "(ite true x y)", "(ite (not p) q r)", "(f x)", "(cons x l)", "(head (cons x l))", "((_ is cons) nil)", "((_ is pair) pr)",
		"(+ x y)", "(+ 1 2)", "(+ x x 0)", "(* 2 x)", "(* x 2)", "(* -1 x)", "(* 1 x)", "(div x 1)", "(mod x -1)", "(abs (abs x))", "(<= x y)", "(<= x x)", "(<= 1 2)", "(select a x)", "(select (store a 1 x) 1)", "(store a x (select a x))", "((as const (Array Int Int)) x)",
		"(concat b d)", "((_ extract 3 0) b)", "(bvnot (bvnot b))", "(bvneg b)", "(bvand b b)", "(bvor b d)", "(bvxor b d)", "(bvcomp b d)", "(bvadd b d)", "(bvadd b #b0000)", "(bvmul b d)", "(bvudiv b d)", "(bvurem b d)", "(bvsdiv b d)", "(bvsrem b d)", "(bvsmod b d)", "(bvshl b d)", "(bvlshr b d)", "(bvashr b d)", "((_ repeat 1) b)", "((_ repeat 2) b)", "((_ zero_extend 0) b)", "((_ sign_extend 1) b)", "((_ rotate_left 0) b)", "((_ rotate_right 1) b)", "(bvule b d)", "(bvule b b)", "(bvsle b d)", "(bvsle b b)", "(bvule #b0001 #b0000)",
	} {
		w.basics(w.read(text), w.read(text))
	}
}

// replaces asks what stands where one term stands in the place of another.
func (w *world) replaces(in, from, to, want string) {
	w.Helper()
	i, e := rewrite.Replace(w.Table, w.read(in), w.read(from), w.read(to))
	if e != api.OK || i != w.read(want) {
		w.Errorf("%s in the place of %s in %s: %s, error %d; want %s", to, from, in, w.form(i), e, want)
	}
}

// P12.3.
func TestReplace(t *testing.T) {
	w := newWorld(t, some())
	w.replaces("x", "x", "y", "y")
	w.replaces("x", "y", "z", "x")
	w.replaces("(+ x y)", "x", "z", "(+ z y)")
	w.replaces("(+ x y)", "(+ x y)", "z", "z")
	w.replaces("(= (+ x x) (+ x y))", "x", "y", "(= (+ y y) (+ y y))")
	w.replaces("(= (+ x x) (+ x y))", "(+ x x)", "y", "(= y (+ x y))")
	w.replaces("(and p (not p) (or q p))", "p", "(xor p q)", "(and (xor p q) (not (xor p q)) (or q (xor p q)))")
	w.replaces("(f (f (f x)))", "(f x)", "x", "(f (f x))") // what comes about is not looked at again
	w.replaces("(f (f (f x)))", "(f (f x))", "x", "(f x)")
	w.replaces("(f (f (f x)))", "x", "(f x)", "(f (f (f (f x))))")
	w.replaces("(f x)", "x", "(f x)", "(f (f x))")
	w.replaces("(f (f x))", "(f x)", "(f (f (f x)))", "(f (f (f (f x))))")
	w.replaces("(ite (= x y) x y)", "(= x y)", "p", "(ite p x y)")
	w.replaces("(ite (= x y) x y)", "x", "x", "(ite (= x y) x y)")
	w.replaces("(+ x 3)", "3", "y", "(+ x y)")
	w.replaces("(* 3 x)", "3", "4", "(* 4 x)")
	w.replaces("(* 3 x)", "3", "(- 4)", "(* (- 4) x)")
	w.replaces("(* 3 x)", "x", "4", "(* 3 4)")
	w.replaces("(* 3 2)", "3", "x", "(* x 2)")
	w.replaces("(div x 3)", "3", "-3", "(div x -3)")
	w.replaces("(* (- 3) x)", "(- 3)", "7", "(* 7 x)")
	w.replaces("(* (- 3) x)", "3", "7", "(* (- 7) x)")
	w.replaces("(+ (* 3 x) 3)", "(* 3 x)", "3", "(+ 3 3)")
	w.replaces("(select (store a x y) x)", "a", "(store a2 x y)", "(select (store (store a2 x y) x y) x)")
	w.replaces("(cons (head l) (tail l))", "l", "(next m)", "(cons (head (next m)) (tail (next m)))")
	w.replaces("((_ is cons) l)", "l", "nil", "((_ is cons) nil)")
	w.replaces("((_ extract 2 1) (bvadd b d))", "(bvadd b d)", "b", "((_ extract 2 1) b)")
	w.replaces("((as const (Array Int Int)) x)", "x", "(+ x 1)", "((as const (Array Int Int)) (+ x 1))")
	w.replaces("(or p q)", "true", "false", "(or p q)")
	w.replaces("(or p true)", "true", "(not true)", "(or p (not true))")
	w.replaces("(and p q)", "p", "true", "(and true q)") // nothing is simplified
}

// P12.3: terms of unlike sorts, and terms that may not be.
func TestReplaceFails(t *testing.T) {
	w := newWorld(t, some())
	for _, fault := range []struct {
		in, from, to string
		want         api.Errno
	}{
		{"(+ x y)", "x", "p", api.ErrSorts}, {"p", "x", "p", api.ErrSorts}, {"x", "x", "b", api.ErrSorts}, {"b", "b", "e", api.ErrSorts}, {"l", "l", "c", api.ErrSorts}, {"a", "a", "ab", api.ErrSorts}, {"(= u v)", "u", "l", api.ErrSorts},
		{"(* 3 x)", "3", "p", api.ErrSorts},
		{"(* 3 x)", "3", "y", api.ErrLinear}, {"(* x 3)", "3", "(+ 1 2)", api.ErrLinear}, {"(* (- 3) x)", "3", "y", api.ErrLinear}, {"(* (- 3) x)", "(- 3)", "(- x)", api.ErrLinear}, {"(div x 3)", "3", "y", api.ErrLinear}, {"(div x 3)", "3", "0", api.ErrLinear}, {"(mod x (- 3))", "3", "0", api.ErrLinear}, {"(mod x 3)", "3", "x", api.ErrLinear},
		{"(or p (= y (f (* 3 x))))", "3", "x", api.ErrLinear}, {"(* 3 (* 2 x))", "2", "x", api.ErrLinear}, {"(* 3 3)", "3", "x", api.ErrLinear},
	} {
		if i, e := rewrite.Replace(w.Table, w.read(fault.in), w.read(fault.from), w.read(fault.to)); i != 0 || e != fault.want {
			t.Errorf("%s in the place of %s in %s: %d, error %d; want error %d", fault.to, fault.from, fault.in, i, e, fault.want)
		}
	}
}

// conjuncts asks for a Bool term's conjuncts, one behind the other.
func (w *world) conjuncts(in string, want ...string) {
	w.Helper()
	got, e := rewrite.Conjuncts(w.Table, w.read(in))
	var texts []string
	for _, i := range got {
		texts = append(texts, w.form(i))
	}
	if e != api.OK || !slices.Equal(texts, want) {
		w.Errorf("Conjuncts of %s: %v, error %d; want %v", in, texts, e, want)
	}
}

// P12.4.
func TestConjuncts(t *testing.T) {
	w := newWorld(t, some())
	w.conjuncts("p", "p")
	w.conjuncts("(not p)", "(not p)")
	w.conjuncts("true")
	w.conjuncts("false", "false")
	w.conjuncts("(not true)", "false")
	w.conjuncts("(not false)")
	w.conjuncts("(not (not true))")
	w.conjuncts("(not (not false))", "false")
	w.conjuncts("(and p q)", "p", "q")
	w.conjuncts("(and q p)", "q", "p")
	w.conjuncts("(and p q p)", "p", "q")
	w.conjuncts("(and (and p q) (and q r))", "p", "q", "r")
	w.conjuncts("(and p (and q (and r (h u p))) (h v p))", "p", "q", "r", "(h u p)", "(h v p)")
	w.conjuncts("(and r (and (and q p) r) q)", "r", "q", "p")
	w.conjuncts("(and p true)", "p")
	w.conjuncts("(and true true)")
	w.conjuncts("(and (not false) (not (not p)))", "p")
	w.conjuncts("(and p false q)", "false")
	w.conjuncts("(and p (not true) q)", "false")
	w.conjuncts("(and p (not p))", "false")
	w.conjuncts("(and (not p) q (and r p))", "false")
	w.conjuncts("(and p (not (not (not p))))", "false")
	w.conjuncts("(not (or p q))", "(not p)", "(not q)")
	w.conjuncts("(not (or p (not q)))", "(not p)", "q")
	w.conjuncts("(not (or (not (not p)) q))", "(not p)", "(not q)")
	w.conjuncts("(not (or p (or q r)))", "(not p)", "(not q)", "(not r)")
	w.conjuncts("(not (or p (not (and q (not (or r (h u p)))))))", "(not p)", "q", "(not r)", "(not (h u p))")
	w.conjuncts("(not (or p true))", "false")
	w.conjuncts("(not (or p false))", "(not p)")
	w.conjuncts("(not (or p (not p)))", "false")
	w.conjuncts("(not (or p p))", "(not p)")
	w.conjuncts("(not (not (and p q)))", "p", "q")
	w.conjuncts("(not (not p))", "p")
	w.conjuncts("(not (not (not p)))", "(not p)")
	w.conjuncts("(not (not (not (or p q))))", "(not p)", "(not q)")
	w.conjuncts("(not (and p q))", "(not (and p q))")
	w.conjuncts("(or p q)", "(or p q)")
	w.conjuncts("(or (and p q) (and p r))", "(or (and p q) (and p r))")
	w.conjuncts("(not (or (and p q) r))", "(not (and p q))", "(not r)")
	w.conjuncts("(not (not (or p q)))", "(or p q)")
	w.conjuncts("(and (or p q) (not (or q r)))", "(or p q)", "(not q)", "(not r)")
	w.conjuncts("(and p (not (or q (not (= x y)))) true)", "p", "(not q)", "(= x y)")
	// Of what can't be at sight it is the conjuncts that count, not what stood there.
	w.conjuncts("(and (or p q) (not (or p q)))", "(or p q)", "(not p)", "(not q)")
	w.conjuncts("(and (and p q) (not (and p q)))", "p", "q", "(not (and p q))")
	w.conjuncts("(and (=> p q) (not (=> p q)))", "false")
	w.conjuncts("(and (<= x y) (not (<= x y)))", "false")
	w.conjuncts("(and (< x x) (= x x))", "(< x x)", "(= x x)") // nothing is simplified
	w.conjuncts("(xor p q)", "(xor p q)")
	w.conjuncts("(not (=> p q))", "(not (=> p q))")
	w.conjuncts("(ite p q false)", "(ite p q false)")
	w.conjuncts("(= p true)", "(= p true)")
	w.conjuncts("(distinct p q)", "(distinct p q)")
	for _, text := range []string{"x", "b", "l", "a", "u", "7"} {
		if list, e := rewrite.Conjuncts(w.Table, w.read(text)); len(list) != 0 || e != api.ErrSorts {
			t.Errorf("Conjuncts of %s: %v, error %d", text, list, e)
		}
	}
}

// P12.5.
func TestSize(t *testing.T) {
	w := newWorld(t, some())
	for text, want := range map[string][2]int{
		"x": {1, 1}, "7": {1, 1}, "true": {1, 1}, "#b01": {1, 1}, "nil": {1, 1}, "(- x)": {2, 2}, "(+ x y)": {3, 3}, "(+ x x)": {2, 3}, "(= (+ x x) (+ x x))": {3, 7}, "(and p p p)": {2, 4}, "(f (f (f x)))": {4, 4}, "((as const (Array Int Int)) x)": {2, 2}, "((_ extract 1 0) b)": {2, 2},
		"(ite (= x y) x y)": {4, 6}, "(cons x (cons x nil))": {4, 5}, "(* 2 (* 2 x))": {4, 5}, "(or (and p q) (and p q) (and q p))": {5, 10},
	} {
		if terms, nodes, e := rewrite.Size(w.Table, w.read(text)); terms != want[0] || nodes != want[1] || e != api.OK {
			t.Errorf("Size of %s: %d, %d, error %d; want %d, %d", text, terms, nodes, e, want[0], want[1])
		}
	}
	// Nodes up to MaxTerms are counted, and no more.
	i := w.read("p")
	for depth := 1; depth < 70; depth++ {
		i = w.of(api.OXor, i, i)
		want := new(big.Int).Lsh(big.NewInt(1), uint(depth+1))
		want.Sub(want, big.NewInt(1))
		if want.Cmp(big.NewInt(api.MaxTerms)) > 0 {
			want.SetInt64(api.MaxTerms)
		}
		if terms, nodes, e := rewrite.Size(w.Table, i); terms != depth+1 || int64(nodes) != want.Int64() || e != api.OK {
			t.Errorf("Size of a term of depth %d: %d, %d, error %d; want %d nodes", depth, terms, nodes, e, want)
		}
	}
	half := w.read("p") // of 2^19 - 1 nodes
	for range 18 {
		half = w.of(api.OXor, half, half)
	}
	for of, want := range map[int]int{
		w.of(api.OXor, half, half):                                              api.MaxTerms - 1,
		w.of(api.ONot, w.of(api.OXor, half, half)):                              api.MaxTerms,
		w.of(api.ONot, w.of(api.ONot, w.of(api.OXor, half, half))):              api.MaxTerms,
		w.of(api.OXor, w.of(api.ONot, half), half):                              api.MaxTerms,
		w.of(api.OAnd, half, half, w.read("p")):                                 api.MaxTerms,
		w.of(api.OAnd, half, half, w.read("p"), w.read("q"), w.read("(not r)")): api.MaxTerms,
	} {
		if _, nodes, e := rewrite.Size(w.Table, of); nodes != want || e != api.OK {
			t.Errorf("Size of term %d: %d, error %d; want %d", of, nodes, e, want)
		}
	}
}
