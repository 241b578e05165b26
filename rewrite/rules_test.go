package rewrite_test

import (
	"testing"

	"tribunal/api"
)

// stay asks of terms that they are simplified already.
func (w *world) stay(terms ...string) {
	w.Helper()
	for _, text := range terms {
		w.simplifies(w.read(text), w.read(text))
	}
}

func TestExamples(t *testing.T) {
	w := newWorld(t, some())
	w.simplify(
		"(and p true (and q p)) : (and p q)", "(or p (not p)) : true", "(=> p false) : (not p)", "(ite (not p) x y) : (ite p y x)",
		"(+ x (* 2 (- x 3)) y) : (+ (* 3 x) y -6)", "(< x x) : false", "(- x x) : 0",
		"(select (store a 1 x) 2) : (select a 2)", "(head (cons x l)) : x", "(= (cons x l) nil) : false",
		"(bvand b #b0000) : #b0000", "((_ extract 1 0) ((_ extract 3 1) b)) : ((_ extract 2 1) b)",
	)
}

// P12.1, rule 1.
func TestLiterals(t *testing.T) {
	w := newWorld(t, some())
	w.simplify(
		"true : true", "false : false", "7 : 7", "-7 : -7", "#b0101 : #b0101",
		"(not true) : false", "(not false) : true",
		"(xor true true) : false", "(xor true false) : true", "(xor false true) : true", "(xor false false) : false",
		"(=> true true) : true", "(=> true false) : false", "(=> false true) : true", "(=> false false) : true",
		"(= true true) : true", "(= false true) : false", "(= 3 3) : true", "(= 3 -3) : false", "(= #b01 #b01) : true", "(= #b01 #b10) : false",
		"(distinct true false) : true", "(distinct true true) : false", "(distinct true false true) : false", "(distinct 1 2 3) : true", "(distinct 1 2 1) : false", "(distinct #b0 #b1) : true", "(distinct #b1 #b1) : false",
		"(distinct 1 2 3 4 5 6 7 8 9 10 11 12) : true", "(distinct 1 2 3 4 5 6 7 8 9 10 11 1) : false",
		"(- 5) : -5", "(- -5) : 5", "(- 0) : 0", "(+ 1 2) : 3", "(+ 1 2 -4) : -1", "(- 1 2) : -1", "(* 3 -4) : -12", "(abs -3) : 3", "(abs 3) : 3",
		"(div 7 2) : 3", "(div -7 2) : -4", "(div 7 -2) : -3", "(div -7 -2) : 4", "(mod 7 2) : 1", "(mod -7 2) : 1", "(mod 7 -2) : 1", "(mod -7 -2) : 1", "(div 7 (- 2)) : -3",
		"(<= 1 2) : true", "(<= 2 2) : true", "(<= 3 2) : false", "(< 1 2) : true", "(< 2 2) : false", "(< 3 2) : false",
		"(>= 1 2) : false", "(>= 2 2) : true", "(>= 3 2) : true", "(> 1 2) : false", "(> 2 2) : false", "(> 3 2) : true",
		"(concat #b10 #b011) : #b10011", "((_ extract 3 1) #b1010) : #b101", "(bvnot #b0101) : #b1010", "(bvneg #b0001) : #b1111",
		"(bvand #b0011 #b0101) : #b0001", "(bvor #b0011 #b0101) : #b0111", "(bvxor #b0011 #b0101) : #b0110", "(bvnand #b0011 #b0101) : #b1110", "(bvnor #b0011 #b0101) : #b1000", "(bvxnor #b0011 #b0101) : #b1001",
		"(bvcomp #b01 #b01) : #b1", "(bvcomp #b01 #b11) : #b0", "(bvadd #b0111 #b1100) : #b0011", "(bvsub #b0001 #b0010) : #b1111", "(bvmul #b0011 #b0110) : #b0010",
		"(bvudiv #b0111 #b0010) : #b0011", "(bvudiv #b0111 #b0000) : #b1111", "(bvurem #b0111 #b0010) : #b0001", "(bvurem #b0111 #b0000) : #b0111",
		"(bvsdiv #b1001 #b0010) : #b1101", "(bvsrem #b1001 #b0010) : #b1111", "(bvsmod #b1001 #b0010) : #b0001",
		"(bvshl #b0011 #b0001) : #b0110", "(bvlshr #b1100 #b0001) : #b0110", "(bvashr #b1100 #b0001) : #b1110",
		"((_ repeat 3) #b01) : #b010101", "((_ zero_extend 2) #b10) : #b0010", "((_ sign_extend 2) #b10) : #b1110", "((_ rotate_left 1) #b1001) : #b0011", "((_ rotate_right 1) #b1001) : #b1100",
		"(bvult #b01 #b10) : true", "(bvult #b10 #b10) : false", "(bvule #b10 #b10) : true", "(bvule #b11 #b10) : false", "(bvugt #b11 #b10) : true", "(bvugt #b10 #b10) : false", "(bvuge #b10 #b10) : true", "(bvuge #b01 #b10) : false",
		"(bvslt #b10 #b01) : true", "(bvslt #b01 #b01) : false", "(bvsle #b01 #b01) : true", "(bvsle #b01 #b10) : false", "(bvsgt #b01 #b10) : true", "(bvsgt #b01 #b01) : false", "(bvsge #b01 #b01) : true", "(bvsge #b10 #b01) : false",
		// What is worked out is an argument again.
		"(* (- 2) (+ 1 1)) : -4", "(bvadd (bvmul #b0010 #b0010) b) : (bvadd #b0100 b)", "(f (+ 1 2)) : (f 3)", "(select a (+ 1 1)) : (select a 2)", "(div x (- 2)) : (div x -2)", "(mod x (- 3)) : (mod x -3)",
	)
}

// Terms that have no literals alone as arguments, or are of no such operator, are not worked out.
func TestNoLiterals(t *testing.T) {
	w := newWorld(t, some())
	w.stay("(= x 3)", "(= 3 x)", "(xor p q)", "(not p)", "(bvcomp b b)", "(bvudiv b b)", "(abs x)", "(concat b #b0)", "(f 3)", "(k #b0000 #b0000)", "(cons 1 nil)", "(pair red true)",
		"((as const (Array Int Int)) 0)", "(store ((as const (Array Int Int)) 0) 1 2)", "(select a 1)", "(= (f 1) (f 2))", "(<= 1 x)", "(bvule #b0001 b)", "(bvcomp #b0001 b)")
}

// P12.1, rules 2 and 3.
func TestNotAndOr(t *testing.T) {
	w := newWorld(t, some())
	w.simplify(
		"(not (not p)) : p", "(not (not (not p))) : (not p)", "(not (not (not (not p)))) : p", "(not (not (not true))) : false",
		"(and p p) : p", "(and p true) : p", "(and true p) : p", "(and true true) : true", "(and p false) : false", "(and false p) : false", "(and true false) : false", "(and p q p) : (and p q)", "(and q p q) : (and q p)",
		"(and p (not p)) : false", "(and (not p) p) : false", "(and p q (not p)) : false", "(and (not q) p q) : false", "(and (and p q) (not q)) : false", "(and (and p (not q)) (and r q)) : false",
		"(and (and p q) r) : (and p q r)", "(and p (and q r)) : (and p q r)", "(and p (and q (and r (h u p)))) : (and p q r (h u p))", "(and (and p q) (and q r)) : (and p q r)", "(and (or p q) (and p (or p q))) : (and (or p q) p)",
		"(and p (not (not q))) : (and p q)", "(and (not (or p q)) (or p q)) : false", "(and (<= x x) p) : p", "(and (< x x) p) : false", "(and (and p true) (and true p)) : p", "(and (and p (not p)) q) : false",
		"(or p p) : p", "(or p false) : p", "(or false p) : p", "(or false false) : false", "(or p true) : true", "(or true p) : true", "(or true false) : true", "(or p q p) : (or p q)", "(or q p q) : (or q p)",
		"(or p (not p)) : true", "(or (not p) p) : true", "(or p q (not p)) : true", "(or (or p q) (not q)) : true",
		"(or (or p q) r) : (or p q r)", "(or p (or q r)) : (or p q r)", "(or p (or q (or r (h u p)))) : (or p q r (h u p))", "(or (or p q) (or q r)) : (or p q r)", "(or (and p q) (or p (and p q))) : (or (and p q) p)",
		"(or (or p false) (or false p)) : p", "(not (and p true)) : (not p)", "(not (and p (not p))) : true",
	)
	w.stay("(not p)", "(and p q)", "(and q p)", "(or p q)", "(and p (or p q))", "(or p (and p q))", "(and (or p q) (or q p))", "(and p (not q))", "(not (and p q))", "(not (or p q))", "(and p (or (not p) q))", "(or (not p) (not q))", "(and (not (and p q)) r)", "(and p (not (and p q)))")
}

// P12.1, rules 4 and 5.
func TestConnectivesAndChoices(t *testing.T) {
	w := newWorld(t, some())
	w.simplify(
		"(xor p true) : (not p)", "(xor true p) : (not p)", "(xor p false) : p", "(xor false p) : p", "(xor p p) : false", "(xor p (not p)) : true", "(xor (not p) p) : true", "(xor (not p) true) : p", "(xor true (not p)) : p", "(xor (not p) false) : (not p)",
		"(xor (and p q) (not (and p q))) : true", "(xor (or p p) p) : false",
		"(=> p q) : (or (not p) q)", "(=> (not p) q) : (or p q)", "(=> p p) : true", "(=> p false) : (not p)", "(=> p true) : true", "(=> true p) : p", "(=> false p) : true", "(=> p (not p)) : (not p)", "(=> p (or q r)) : (or (not p) q r)", "(=> (not (or p q)) r) : (or p q r)", "(=> (and p q) r) : (or (not (and p q)) r)", "(=> p (=> q r)) : (or (not p) (not q) r)",
		"(ite true x y) : x", "(ite false x y) : y", "(ite p x x) : x", "(ite (not p) x y) : (ite p y x)", "(ite (not (not p)) x y) : (ite p x y)", "(ite (= 1 1) x y) : x", "(ite p (+ x 0) x) : x", "(ite true p q) : p", "(ite false p q) : q", "(ite p q q) : q", "(ite (not p) q r) : (ite p r q)",
		"(ite p true q) : (or p q)", "(ite p false q) : (and (not p) q)", "(ite p q true) : (or (not p) q)", "(ite p q false) : (and p q)", "(ite p true false) : p", "(ite p false true) : (not p)", "(ite p true true) : true", "(ite p false false) : false",
		"(ite (not p) true q) : (or (not p) q)", "(ite (not p) false q) : (and p q)", "(ite (not p) q true) : (or p q)", "(ite (not p) q false) : (and (not p) q)", "(ite p true p) : p", "(ite p true (not p)) : true", "(ite p false p) : false", "(ite p true (or q r)) : (or p q r)",
		"(ite p b b) : b", "(ite (not p) l m) : (ite p m l)", "(ite true a a2) : a", "(ite p 1 1) : 1",
	)
	w.stay("(xor p q)", "(xor q p)", "(xor (not p) q)", "(xor p (not q))", "(xor (not p) (not q))", "(ite p x y)", "(ite p q r)", "(ite p p q)", "(ite p q p)", "(ite p 1 0)", "(ite p #b1 #b0)", "(ite (and p q) x y)", "(ite p (not q) q)", "(ite p l m)")
}

// P12.1, rules 6 and 7.
func TestEquationsAndDistinctions(t *testing.T) {
	w := newWorld(t, some())
	w.simplify(
		"(= p p) : true", "(= x x) : true", "(= a a) : true", "(= u u) : true", "(= l l) : true", "(= b b) : true", "(= (f x) (f (+ x 0))) : true",
		"(= p true) : p", "(= true p) : p", "(= p false) : (not p)", "(= false p) : (not p)", "(= (not p) false) : p", "(= false (not p)) : p", "(= (not p) true) : (not p)", "(= p (not p)) : false", "(= (not p) p) : false", "(= (and p q) (not (and p q))) : false",
		"(= nil nil) : true", "(= (cons x l) nil) : false", "(= nil (cons x l)) : false", "(= red green) : false", "(= red red) : true", "(= unit unit) : true",
		"(= (cons x l) (cons y m)) : (and (= x y) (= l m))", "(= (cons x l) (cons x m)) : (= l m)", "(= (cons x l) (cons y l)) : (= x y)", "(= (cons 1 l) (cons 2 m)) : false", "(= (cons 1 l) (cons 1 l)) : true", "(= (cons x l) (cons 1 nil)) : (and (= x 1) (= l nil))",
		"(= (cons x (cons y l)) (cons y (cons x m))) : (and (= x y) (= y x) (= l m))", "(= (cons x (cons y l)) (cons y nil)) : false",
		"(= (round x) (round y)) : (= x y)", "(= (round x) (round x)) : true", "(= (round x) dot) : false", "(= (round 1) (round 2)) : false", "(= (pair c p) (pair red true)) : (and (= c red) p)", "(= (pair c p) (pair red q)) : (and (= c red) (= p q))", "(= (pair red p) (pair green q)) : false",
		"(= (box x p s) (box y q dot)) : (and (= x y) (= p q) (= s dot))", "(= (box x p s) (box x (not p) s)) : false",
		"(distinct p p) : false", "(distinct x y x) : false", "(distinct x x) : false", "(distinct x y) : (not (= x y))", "(distinct p true) : (not p)", "(distinct p false) : p", "(distinct p (not p)) : true", "(distinct x y 3) : (and (not (= x y)) (not (= x 3)) (not (= y 3)))",
		"(distinct x 1 2) : (and (not (= x 1)) (not (= x 2)))", "(distinct red green c) : (and (not (= red c)) (not (= green c)))", "(distinct red green blue) : true", "(distinct nil (cons x l)) : true", "(distinct (round x) (round y)) : (not (= x y))",
		"(distinct u v w) : (and (not (= u v)) (not (= u w)) (not (= v w)))", "(distinct u v w (ite p u v)) : (and (not (= u v)) (not (= u w)) (not (= u (ite p u v))) (not (= v w)) (not (= v (ite p u v))) (not (= w (ite p u v))))",
		"(distinct p q r) : (and (not (= p q)) (not (= p r)) (not (= q r)))", "(distinct (+ x 0) y x) : false",
	)
	w.stay("(= p q)", "(= q p)", "(= (not p) q)", "(= (not p) (not q))", "(= x y)", "(= x 0)", "(= 0 x)", "(= l nil)", "(= nil l)", "(= (cons x l) m)", "(= b #b0000)", "(= (next l) (next m))", "(not (= x y))", "(= u v)", "(= a a2)")
}

// P12.1, rule 8.
func TestSums(t *testing.T) {
	w := newWorld(t, some())
	w.simplify(
		"(- x) : (* -1 x)", "(- (- x)) : x", "(- (* 2 x)) : (* -2 x)", "(- (* -1 x)) : x", "(- (+ x 3)) : (+ (* -1 x) -3)", "(- (+ (* 2 x) (* -1 y) -4)) : (+ (* -2 x) y 4)", "(- (- x y)) : (+ (* -1 x) y)",
		"(+ x x) : (* 2 x)", "(+ x 0) : x", "(+ 0 x) : x", "(+ x y x) : (+ (* 2 x) y)", "(+ y x y) : (+ (* 2 y) x)", "(+ 1 x) : (+ x 1)", "(+ 1 x 2 y 3) : (+ x y 6)", "(+ 1 x -1) : x", "(+ x (- x)) : 0", "(+ x (- x) 5) : 5", "(+ x y (- x)) : y", "(+ x y (* -1 x) (- y)) : 0",
		"(+ (+ x y) z) : (+ x y z)", "(+ x (+ y z)) : (+ x y z)", "(+ (+ x 1) (+ y 2)) : (+ x y 3)", "(+ (+ x 1) (+ (- x) 2)) : 3", "(+ x (+ y (+ z x))) : (+ (* 2 x) y z)", "(+ (* 2 x) (* 3 x)) : (* 5 x)", "(+ (* 2 x) (* -2 x)) : 0", "(+ (* 2 x) (* -1 x)) : x", "(+ (* 2 x) (* -3 x)) : (* -1 x)", "(+ x (* x 2)) : (* 3 x)",
		"(- x y) : (+ x (* -1 y))", "(- x x) : 0", "(- x 3) : (+ x -3)", "(- 3 x) : (+ (* -1 x) 3)", "(- x 0) : x", "(- 0 x) : (* -1 x)", "(- (+ x y) (+ y x)) : 0", "(- (+ x 1) (+ y 1)) : (+ x (* -1 y))", "(- x (- y 3)) : (+ x (* -1 y) 3)", "(- x (* -2 x)) : (* 3 x)", "(- (* 3 x) (* 2 x)) : x",
		"(* 2 x) : (* 2 x)", "(* x 2) : (* 2 x)", "(* x -2) : (* -2 x)", "(* x (- 2)) : (* -2 x)", "(* (- 2) x) : (* -2 x)", "(* 1 x) : x", "(* x 1) : x", "(* 0 x) : 0", "(* x 0) : 0", "(* -1 x) : (* -1 x)", "(* 2 (* 3 x)) : (* 6 x)", "(* (* x 3) 2) : (* 6 x)", "(* 2 (+ x y 3)) : (+ (* 2 x) (* 2 y) 6)", "(* (+ x (* -1 y)) -3) : (+ (* -3 x) (* 3 y))", "(* 0 (+ x y)) : 0", "(* 1 (+ x y)) : (+ x y)", "(* 2 (- x)) : (* -2 x)", "(* -1 (- x)) : x", "(* 2 (- x x)) : 0",
		"(+ (f x) (f x)) : (* 2 (f x))", "(+ (f (+ x x)) (f (* 2 x))) : (* 2 (f (* 2 x)))", "(+ (ite p x y) 0) : (ite p x y)", "(- (div x 2) (div x 2)) : 0", "(+ (abs x) 1 (abs x)) : (+ (* 2 (abs x)) 1)", "(- (select a x)) : (* -1 (select a x))", "(* 2 (head l)) : (* 2 (head l))", "(+ x (* 2 (- x 3)) y) : (+ (* 3 x) y -6)",
	)
	w.stay("(+ x y)", "(+ y x)", "(+ x 1)", "(+ x -1)", "(+ x y z 1)", "(* 2 x)", "(* -1 x)", "(+ x (* 2 y))", "(+ (* 2 x) (* -1 y))", "(+ (f x) (f y))", "x", "(+ (ite p 1 2) (ite q 1 2))")
}

// P12.1, rule 9.
func TestIntegers(t *testing.T) {
	w := newWorld(t, some())
	w.simplify(
		"(<= x x) : true", "(<= (+ x y 0) (+ x y)) : true", "(< x y) : (not (<= y x))", "(>= x y) : (<= y x)", "(> x y) : (not (<= x y))", "(< x x) : false", "(> x x) : false", "(>= x x) : true", "(not (< x y)) : (<= y x)", "(not (> x y)) : (<= x y)", "(< x 3) : (not (<= 3 x))", "(>= 3 x) : (<= x 3)", "(> (+ x x) y) : (not (<= (* 2 x) y))",
		"(div x 1) : x", "(div x -1) : (* -1 x)", "(div x (- 1)) : (* -1 x)", "(div (+ x 1) -1) : (+ (* -1 x) -1)", "(mod x 1) : 0", "(mod x -1) : 0", "(mod x (- 1)) : 0", "(abs (abs x)) : (abs x)", "(abs (abs (abs x))) : (abs x)", "(div (div x 2) 1) : (div x 2)",
	)
	w.stay("(<= x y)", "(<= y x)", "(<= x 3)", "(<= 3 x)", "(<= (f x) (f y))", "(div x 2)", "(div x -2)", "(mod x 2)", "(mod x -2)", "(div x 18446744073709551617)", "(mod x 18446744073709551617)", "(div x -18446744073709551617)", "(abs x)", "(abs (* -1 x))", "(div (div x 2) 2)", "(mod (mod x 2) 2)")
}

// P12.1, rules 10 and 11.
func TestArraysAndTrees(t *testing.T) {
	w := newWorld(t, some())
	w.simplify(
		"(select ((as const (Array Int Int)) x) y) : x", "(select ((as const (Array Bool Bool)) p) q) : p", "(select (store a x y) x) : y", "(select (store a 1 y) 1) : y", "(select (store a 1 x) 2) : (select a 2)", "(select (store (store a 1 x) 2 y) 1) : x", "(select (store (store a 1 x) 2 y) 3) : (select a 3)", "(select (store ((as const (Array Int Int)) x) 1 y) 2) : x",
		"(select (store ab true p) false) : (select ab false)", "(select (store ab true p) true) : p", "(select (store av #b0000 x) #b0001) : (select av #b0001)", "(select (store av #b0000 x) #b0000) : x", "(select (store a (+ x 0) y) x) : y", "(select (store a (+ 1 1) x) 3) : (select a 3)", "(select (store av b x) b) : x", "(select (store au u b) u) : b",
		"(store (store a x 1) x 2) : (store a x 2)", "(store (store a 1 1) 1 2) : (store a 1 2)", "(store (store (store a x 1) x 2) x 3) : (store a x 3)", "(store ((as const (Array Int Int)) x) y x) : ((as const (Array Int Int)) x)", "(store ((as const (Array Int Int)) 0) 1 0) : ((as const (Array Int Int)) 0)", "(store (store ((as const (Array Int Int)) 0) 1 2) 1 0) : ((as const (Array Int Int)) 0)",
		"(store a x (select a x)) : a", "(store a 1 (select a 1)) : a", "(store (store a x y) x (select a x)) : a", "(store (store a x y) x (select (store a x y) x)) : (store a x y)",
		"(head (cons x l)) : x", "(tail (cons x l)) : l", "(head (tail (cons x (cons y l)))) : y", "(width (box x p s)) : x", "(lid (box x p s)) : p", "(inside (box x p s)) : s", "(first (pair red p)) : red", "(second (pair red p)) : p", "(radius (round x)) : x",
		"((_ is cons) (cons x l)) : true", "((_ is nil) (cons x l)) : false", "((_ is cons) nil) : false", "((_ is nil) nil) : true", "((_ is pair) pr) : true", "((_ is pair) (pair red p)) : true", "((_ is unit) un) : true", "((_ is unit) unit) : true", "((_ is red) red) : true", "((_ is red) green) : false", "((_ is box) (round x)) : false",
	)
	w.stay("(select a x)", "(select (store a x y) z)", "(select (store a 1 y) x)", "(select (store a x y) 1)", "(select (store au u b) v)", "(select (store av b x) #b0001)", "(select (store av #b0001 x) b)", "(store a x y)", "(store (store a x 1) y 2)", "(store (store a 1 x) 2 y)", "(store (store a 2 x) 1 y)", "(store (store (store a x 1) y 2) x 3)",
		"(store ((as const (Array Int Int)) x) y z)", "(store (store ((as const (Array Int Int)) 0) 1 2) 2 0)", "(store a x (select a y))", "(store a x (select a2 x))", "(store a2 x (select a x))", "((as const (Array Int Int)) x)", "(store (store a 1 x) 2 (select a 2))",
		"(head l)", "(tail l)", "(head nil)", "(tail nil)", "(radius dot)", "(radius (box x p s))", "(width (round x))", "(inside s)", "(first pr)", "((_ is cons) l)", "((_ is nil) l)", "((_ is red) c)", "((_ is dot) s)", "((_ is cons) (tail l))", "(cons (head l) (tail l))", "(head (ite p (cons x l) m))")
}

// P12.1, rules 12 and 13.
func TestVectors(t *testing.T) {
	w := newWorld(t, some())
	w.simplify(
		"(bvnot (bvnot b)) : b", "(bvneg (bvneg b)) : b", "(bvnot (bvnot (bvnot b))) : (bvnot b)",
		"(bvand b #b0000) : #b0000", "(bvand #b0000 b) : #b0000", "(bvand b #b1111) : b", "(bvand #b1111 b) : b", "(bvand b b) : b",
		"(bvor b #b1111) : #b1111", "(bvor #b1111 b) : #b1111", "(bvor b #b0000) : b", "(bvor #b0000 b) : b", "(bvor b b) : b",
		"(bvxor b #b0000) : b", "(bvxor #b0000 b) : b", "(bvxor b b) : #b0000", "(bvxor g g) : #b00000000",
		"(bvadd b #b0000) : b", "(bvadd #b0000 b) : b", "(bvsub b #b0000) : b", "(bvsub b b) : #b0000", "(bvsub g g) : #b00000000",
		"(bvmul b #b0000) : #b0000", "(bvmul #b0000 b) : #b0000", "(bvmul b #b0001) : b", "(bvmul #b0001 b) : b",
		"(bvshl b #b0000) : b", "(bvlshr b #b0000) : b", "(bvashr b #b0000) : b",
		"((_ extract 3 0) b) : b", "((_ extract 0 0) e) : e", "((_ zero_extend 0) b) : b", "((_ sign_extend 0) b) : b", "((_ repeat 1) b) : b", "((_ rotate_left 0) b) : b", "((_ rotate_right 0) b) : b",
		"((_ extract 1 0) ((_ extract 3 1) b)) : ((_ extract 2 1) b)", "((_ extract 1 1) ((_ extract 3 1) b)) : ((_ extract 2 2) b)", "((_ extract 2 0) ((_ extract 3 1) b)) : ((_ extract 3 1) b)", "((_ extract 1 0) ((_ extract 2 1) ((_ extract 6 2) g))) : ((_ extract 4 3) g)", "((_ extract 1 1) ((_ extract 3 1) ((_ extract 7 4) g))) : ((_ extract 6 6) g)",
		// Bits of width 1, where 1 and -1 are the same.
		"(bvand e #b1) : e", "(bvand #b1 e) : e", "(bvand e #b0) : #b0", "(bvor e #b1) : #b1", "(bvor e #b0) : e", "(bvmul e #b1) : e", "(bvmul #b1 e) : e", "(bvmul e #b0) : #b0", "(bvxor e e) : #b0", "(bvadd e #b0) : e", "(bvsub e e) : #b0", "(bvshl e #b0) : e",
		"(bvnand b d) : (bvnot (bvand b d))", "(bvnor b d) : (bvnot (bvor b d))", "(bvxnor b d) : (bvnot (bvxor b d))", "(bvnand b b) : (bvnot b)", "(bvnor b #b0000) : (bvnot b)", "(bvxnor b b) : #b1111", "(bvnand b #b0000) : #b1111", "(bvnot (bvnand b d)) : (bvand b d)",
		"(bvugt b d) : (not (bvule b d))", "(bvuge b d) : (bvule d b)", "(bvult b d) : (not (bvule d b))", "(bvsgt b d) : (not (bvsle b d))", "(bvsge b d) : (bvsle d b)", "(bvslt b d) : (not (bvsle d b))",
		"(bvule b b) : true", "(bvsle b b) : true", "(bvult b b) : false", "(bvuge b b) : true", "(bvugt b b) : false", "(bvslt b b) : false", "(bvsge b b) : true", "(bvsgt b b) : false", "(bvugt b #b0001) : (not (bvule b #b0001))",
	)
	w.stay("(bvnot b)", "(bvneg b)", "(bvnot (bvneg b))", "(bvneg (bvnot b))", "(bvand b d)", "(bvand b #b0001)", "(bvand b #b0111)", "(bvor b d)", "(bvor b #b0001)", "(bvor b #b1110)", "(bvxor b d)", "(bvxor b #b1111)", "(bvxor b #b0001)", "(bvadd b b)", "(bvadd b #b0001)", "(bvadd b #b1111)", "(bvsub b d)", "(bvsub #b0000 b)", "(bvsub b #b0001)", "(bvmul b b)", "(bvmul b #b1111)", "(bvmul b #b0010)",
		"(bvudiv b #b0001)", "(bvudiv b b)", "(bvudiv #b0000 b)", "(bvurem b #b0001)", "(bvsdiv b #b0001)", "(bvsrem b b)", "(bvsmod b #b0001)", "(bvshl b #b0001)", "(bvshl #b0000 b)", "(bvlshr #b0000 b)", "(bvashr b b)", "(bvcomp b b)", "(bvxor e #b1)", "(bvadd e e)", "(bvsub #b0 e)",
		"((_ extract 3 1) b)", "((_ extract 2 0) b)", "((_ extract 2 1) b)", "((_ extract 0 0) b)", "((_ zero_extend 1) b)", "((_ sign_extend 1) b)", "((_ repeat 2) b)", "((_ rotate_left 1) b)", "((_ rotate_left 4) b)", "((_ rotate_right 4) b)", "((_ rotate_right 1) b)", "(concat b d)", "(concat ((_ extract 3 2) b) ((_ extract 1 0) b))", "((_ extract 1 0) ((_ zero_extend 2) b))", "((_ extract 1 0) (concat b d))",
		"(bvule b d)", "(bvule d b)", "(bvsle b d)", "(bvule b #b1111)", "(bvule #b0000 b)", "(bvsle b #b0000)")
}

// What an Op with other arguments is, of the Ops that no rule is about.
func TestOtherOps(t *testing.T) {
	w := newWorld(t, some())
	w.simplify("(f (+ x 0)) : (f x)", "(h u (and p true)) : (h u p)", "(cons (+ 1 1) (tail (cons x l))) : (cons 2 l)", "((as const (Array Int Int)) (- x x)) : ((as const (Array Int Int)) 0)", "(concat (bvnot (bvnot b)) d) : (concat b d)", "(bvcomp (bvand b b) d) : (bvcomp b d)", "(bvudiv (bvor b b) d) : (bvudiv b d)", "(head (ite true l m)) : (head l)", "((_ is cons) (ite false l m)) : ((_ is cons) m)")
	if n, _ := w.Node(w.read("(- 5)")); n.Op != api.OMinus {
		t.Error("(- 5) is no OMinus here")
	}
}
