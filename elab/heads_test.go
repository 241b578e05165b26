package elab_test

import (
	"strings"
	"testing"

	"tribunal/api"
)

// P8.4: heads that stand for one Op, with the arguments that it takes; their texts are those of what they make.
func TestPlainHeads(t *testing.T) {
	e := env(t)
	texts := []string{
		"(not p)", "(ite p x y)", "(ite q b d)", "(abs x)", "(mod x 3)", "(mod x (- 3))", "(select a x)", "(store a x y)", "(distinct x y)", "(distinct p q r p)", "(and p q)", "(and p q r p)", "(or p q)", "(or p q r)", "(+ x y)", "(+ x 1 y 2)",
		"(- x)", "(bvnot b)", "(bvneg b)", "(f x)", "(g x l u)", "(|is so| m)", "(cons x nil)", "(head l)", "(tail (cons 1 l))",
		"((_ extract 3 1) b)", "((_ extract 0 0) b)", "((_ repeat 2) b)", "((_ zero_extend 0) b)", "((_ sign_extend 5) b)", "((_ rotate_left 9) b)", "((_ rotate_right 4096) b)", "((_ is cons) l)", "((_ is nil) l)", "((_ is |light green|) c)", "((as const (Array Int Bool)) p)",
	}
	for _, op := range strings.Fields("bvand bvor bvxor bvnand bvnor bvxnor bvcomp bvadd bvsub bvmul bvudiv bvurem bvsdiv bvsrem bvsmod bvshl bvlshr bvashr bvult bvule bvugt bvuge bvslt bvsle bvsgt bvsge concat") {
		texts = append(texts, "("+op+" b d)")
	}
	for _, op := range strings.Fields("= <= < >= > - * div") {
		texts = append(texts, "("+op+" x 7)")
	}
	for _, op := range strings.Fields("xor => =") {
		texts = append(texts, "("+op+" p q)")
	}
	for _, s := range texts {
		isTerm(t, e, s, s)
	}
	for s, want := range map[string]string{
		"(|and| p q)": "(and p q)", "(|-| x)": "(- x)", "((_ |extract| 3 1) b)": "((_ extract 3 1) b)", "((_ |is| |cons|) l)": "((_ is cons) l)", "((as |const| |Ints|) 1)": "((as const (Array Int Int)) 1)",
		"(x)": "x", "(nil)": "nil", "((as x Int))": "x", "((as f Int) x)": "(f x)", "((as + Int) x y)": "(+ x y)", "((as - Int) x)": "(- x)", "((as < Bool) x y 1)": "(and (< x y) (< y 1))", "((as cons List) x (as nil List))": "(cons x nil)", "((as head Int) l)": "(head l)", "((as |double| |Int|) x)": "(+ x x)", "((as select Int) a x)": "(select a x)",
	} {
		isTerm(t, e, s, want)
	}
}

// P8.4: heads that take two or more, from the left.
func TestFromTheLeft(t *testing.T) {
	e := env(t)
	for op, args := range map[string][]string{
		"-": {"x", "y", "1", "z"}, "*": {"x", "2", "3", "4"}, "div": {"x", "2", "3", "4"}, "xor": {"p", "q", "r", "p"}, "concat": {"b", "d", "b8", "b"},
		"bvand": {"b", "d", "b", "d"}, "bvor": {"b", "d", "b", "d"}, "bvxor": {"b", "d", "b", "d"}, "bvadd": {"b", "d", "b", "d"}, "bvmul": {"b", "d", "b", "d"},
	} {
		want := args[0]
		for n := 1; n < len(args); n++ {
			want = "(" + op + " " + want + " " + args[n] + ")"
			isTerm(t, e, "("+op+" "+strings.Join(args[:n+1], " ")+")", want)
		}
		if op != "-" {
			one := "(" + op + " " + args[0] + ")"
			noTerm(t, e, one, one, api.ErrArgs)
		}
		noTerm(t, e, "("+op+")", "("+op+")", api.ErrArgs)
		bad := "(" + op + " " + strings.Join(args, " ") + " u)"
		noTerm(t, e, bad, bad, api.ErrSorts)
	}
	long := "x" + strings.Repeat(" y", 1000)
	isTerm(t, e, "(- "+long+")", strings.Repeat("(- ", 1000)+"x"+strings.Repeat(" y)", 1000))
}

// P8.4: => is from the right.
func TestFromTheRight(t *testing.T) {
	e := env(t)
	isTerm(t, e, "(=> p q)", "(=> p q)")
	isTerm(t, e, "(=> p q r)", "(=> p (=> q r))")
	isTerm(t, e, "(=> p q r p)", "(=> p (=> q (=> r p)))")
	isTerm(t, e, "(=> "+strings.Repeat("p ", 100)+"q)", strings.Repeat("(=> p ", 100)+"q"+strings.Repeat(")", 100))
	noTerm(t, e, "(=>)", "(=>)", api.ErrArgs)
	noTerm(t, e, "(=> p)", "(=> p)", api.ErrArgs)
	noTerm(t, e, "(=> x)", "(=> x)", api.ErrArgs)
	noTerm(t, e, "(=> p x q)", "(=> p x q)", api.ErrSorts)
}

// P8.4: = <= < >= > of more than two: all neighbours.
func TestNeighbours(t *testing.T) {
	e := env(t)
	for _, op := range strings.Fields("= <= < >= >") {
		isTerm(t, e, "("+op+" x y)", "("+op+" x y)")
		isTerm(t, e, "("+op+" x y 1)", "(and ("+op+" x y) ("+op+" y 1))")
		isTerm(t, e, "("+op+" x y 1 z)", "(and ("+op+" x y) ("+op+" y 1) ("+op+" 1 z))")
		noTerm(t, e, "("+op+")", "("+op+")", api.ErrArgs)
		noTerm(t, e, "("+op+" x)", "("+op+" x)", api.ErrArgs)
		noTerm(t, e, "("+op+" nobody)", "nobody", api.ErrUnbound)
		noTerm(t, e, "("+op+" x y p)", "("+op+" x y p)", api.ErrSorts)
		noTerm(t, e, "("+op+" u x y)", "("+op+" u x y)", api.ErrSorts)
		most := "(" + op + strings.Repeat(" x", api.MaxArgs+1) + ")"
		isTerm(t, e, most, "(and"+strings.Repeat(" ("+op+" x x)", api.MaxArgs)+")")
		more := "(" + op + strings.Repeat(" x", api.MaxArgs+2) + ")"
		noTerm(t, e, more, more, api.ErrArgs)
		odd := "(" + op + strings.Repeat(" x", api.MaxArgs+2) + " p)"
		noTerm(t, e, odd, odd, api.ErrSorts)
	}
}

// P8.4: heads of all arguments at once.
func TestAllAtOnce(t *testing.T) {
	e := env(t)
	for op, arg := range map[string]string{"and": "p", "or": "q", "distinct": "l", "+": "z"} {
		for _, n := range []int{2, 3, 63, api.MaxArgs} {
			s := "(" + op + strings.Repeat(" "+arg, n) + ")"
			isTerm(t, e, s, s)
		}
		for _, n := range []int{0, 1, api.MaxArgs + 1, 200} {
			s := "(" + op + strings.Repeat(" "+arg, n) + ")"
			noTerm(t, e, s, s, api.ErrArgs)
		}
		s := "(" + op + " " + arg + " u)"
		noTerm(t, e, s, s, api.ErrSorts)
	}
}

// P8.4: what stands at the head is looked at first; its faults are told at the head's node.
func TestFaultsOfHeads(t *testing.T) {
	e := env(t)
	for _, c := range []struct {
		head string
		want api.Errno
	}{
		{"5", api.ErrForm}, {"1.5", api.ErrForm}, {`"f"`, api.ErrForm}, {":f", api.ErrForm}, {"#b1", api.ErrForm}, {"#x1", api.ErrForm}, {"()", api.ErrForm}, {"(f)", api.ErrForm}, {"(f z)", api.ErrForm}, {"((f))", api.ErrForm}, {"(5)", api.ErrForm},
		{"nobody", api.ErrUnbound}, {"true", api.ErrUnbound}, {"|false|", api.ErrUnbound}, {"U", api.ErrUnbound}, {"bv5", api.ErrUnbound}, {"@f", api.ErrUnbound}, {"||", api.ErrUnbound},
		{"(_)", api.ErrForm}, {"(_ extract)", api.ErrForm}, {"(_ extract 3)", api.ErrForm}, {"(_ extract 3 1 1)", api.ErrForm}, {"(_ extract 3 x)", api.ErrForm}, {"(_ extract #b1 1)", api.ErrForm}, {"(_ extract 3 -1)", api.ErrForm}, {"(_ extract 3 (1))", api.ErrForm}, {"(_ extract 1000000001 y)", api.ErrForm}, {"(_ (extract) 3 1)", api.ErrForm}, {`(_ "extract" 3 1)`, api.ErrForm}, {"(_ :extract 3 1)", api.ErrForm}, {"(_ 3 1)", api.ErrForm},
		{"(_ repeat)", api.ErrForm}, {"(_ repeat 1 1)", api.ErrForm}, {"(_ zero_extend a)", api.ErrForm}, {"(_ sign_extend 1.5)", api.ErrForm}, {"(_ rotate_left)", api.ErrForm}, {"(_ rotate_right 1 2)", api.ErrForm}, {"(_ concat 1)", api.ErrForm}, {"(_ f 1)", api.ErrForm}, {"(_ double 1)", api.ErrForm}, {"(_ nobody 1)", api.ErrForm}, {"(_ nobody nobody)", api.ErrForm}, {"(_ bv5 4)", api.ErrForm}, {"(_ const Ints)", api.ErrForm}, {"(_ + 1)", api.ErrForm}, {"(|_| extract 3 1)", api.ErrForm}, {"(_ true)", api.ErrForm},
		{"(_ is)", api.ErrForm}, {"(_ is cons nil)", api.ErrForm}, {"(_ is 5)", api.ErrForm}, {"(_ is (cons))", api.ErrForm}, {"(_ is :cons)", api.ErrForm}, {`(_ is "cons")`, api.ErrForm}, {"(is cons)", api.ErrForm}, {"(|_| is cons)", api.ErrForm}, {"(_ Is cons)", api.ErrForm},
		{"(_ extract 1000000001 1)", api.ErrParam}, {"(_ extract 3 1000000001)", api.ErrParam}, {"(_ repeat 1000000001)", api.ErrParam}, {"(_ zero_extend 18446744073709551617)", api.ErrParam}, {"(_ sign_extend 99999999999999999999999)", api.ErrParam}, {"(_ rotate_left 1000000001)", api.ErrParam}, {"(_ rotate_right 1" + strings.Repeat("0", 3000) + ")", api.ErrParam},
		{"(as)", api.ErrForm}, {"(as f)", api.ErrForm}, {"(as f Int Int)", api.ErrForm}, {"(as 5 Int)", api.ErrForm}, {"(as (f) Int)", api.ErrForm}, {"(as :f Int)", api.ErrForm}, {"(as let Int)", api.ErrForm}, {"(as _ nobody)", api.ErrForm}, {"(|as| f Int)", api.ErrForm}, {"(as const)", api.ErrForm}, {"(as const Ints Ints)", api.ErrForm},
		{"(as nobody Int)", api.ErrUnbound}, {"(as nobody 5)", api.ErrUnbound}, {"(as true Bool)", api.ErrUnbound}, {"(as f Nobody)", api.ErrUnbound}, {"(as f 5)", api.ErrForm}, {"(as f (Array Int Pair))", api.ErrArgs}, {"(as f (Array Nobody (_ BitVec 0)))", api.ErrUnbound}, {"(as f (_ BitVec 0))", api.ErrSort},
		{"(as const Nobody)", api.ErrUnbound}, {"(as const 5)", api.ErrForm}, {"(as const (Array Int (Array Int)))", api.ErrArgs}, {"(as const (Array Int (_ BitVec 4097)))", api.ErrSort}, {"(as const (Array Int (Row Int (Row U (Pair nobody)))))", api.ErrUnbound},
		{"(! f :k)", api.ErrForm}, {"(let ((k 1)) f)", api.ErrForm}, {"(forall ((k Int)) f)", api.ErrForm},
	} {
		noTerm(t, e, "("+c.head+" nowhere)", c.head, c.want)
		noTerm(t, e, "(f ("+c.head+"))", c.head, c.want)
	}
}

// P8.4: then the arguments from the left, then what is wrong at the list.
func TestFaultsOfApplications(t *testing.T) {
	e := env(t)
	noTerm(t, e, "(f nobody nowhere)", "nobody", api.ErrUnbound)
	noTerm(t, e, "(f (not x) nowhere)", "(not x)", api.ErrSorts)
	noTerm(t, e, "(f 1 2 nowhere)", "nowhere", api.ErrUnbound)
	noTerm(t, e, "(+ nobody)", "nobody", api.ErrUnbound)
	noTerm(t, e, "(=> nobody)", "nobody", api.ErrUnbound)
	noTerm(t, e, "(double p nobody)", "nobody", api.ErrUnbound)
	noTerm(t, e, "((_ extract 9 0) nobody)", "nobody", api.ErrUnbound)
	noTerm(t, e, "((_ is nobody) nowhere)", "nowhere", api.ErrUnbound)
	noTerm(t, e, "((as const Int) nobody)", "nobody", api.ErrUnbound)
	for s, want := range map[string]api.Errno{
		"(f)": api.ErrArgs, "(f x y)": api.ErrArgs, "(x 1)": api.ErrArgs, "(nil 1)": api.ErrArgs, "(cons x)": api.ErrArgs, "(cons x l l)": api.ErrArgs, "(head)": api.ErrArgs, "(head l l)": api.ErrArgs, "(five 5)": api.ErrArgs, "(g x l)": api.ErrArgs,
		"(not)": api.ErrArgs, "(not p q)": api.ErrArgs, "(ite p x)": api.ErrArgs, "(abs)": api.ErrArgs, "(mod x)": api.ErrArgs, "(mod x 2 3)": api.ErrArgs, "(select a)": api.ErrArgs, "(select a 1 2)": api.ErrArgs, "(store a 1)": api.ErrArgs, "(bvnot b d)": api.ErrArgs, "(bvneg)": api.ErrArgs, "(-)": api.ErrArgs,
		"(bvsub b d b)": api.ErrArgs, "(bvnand b d b)": api.ErrArgs, "(bvxnor b d b)": api.ErrArgs, "(bvcomp b d b)": api.ErrArgs, "(bvudiv b d b)": api.ErrArgs, "(bvult b d b)": api.ErrArgs, "(bvshl b d b)": api.ErrArgs, "(bvand b)": api.ErrArgs, "(bvsub b)": api.ErrArgs,
		"((_ extract 3 1))": api.ErrArgs, "((_ extract 3 1) b d)": api.ErrArgs, "((_ extract 1 3))": api.ErrArgs, "((_ is cons))": api.ErrArgs, "((_ is cons) l l)": api.ErrArgs, "((as const Ints))": api.ErrArgs, "((as const Ints) 1 2)": api.ErrArgs, "((as const Int))": api.ErrArgs, "((as f Bool))": api.ErrArgs, "((as f Bool) x y)": api.ErrArgs, "((as + Bool) x)": api.ErrArgs,
		"(f p)": api.ErrSorts, "(cons l x)": api.ErrSorts, "(head x)": api.ErrSorts, "(not x)": api.ErrSorts, "(ite x x x)": api.ErrSorts, "(ite p x q)": api.ErrSorts, "(= x p)": api.ErrSorts, "(distinct l c)": api.ErrSorts, "(and p x)": api.ErrSorts, "(+ x p)": api.ErrSorts, "(- p)": api.ErrSorts, "(- x p)": api.ErrSorts, "(abs b)": api.ErrSorts, "(bvadd b b8)": api.ErrSorts, "(bvand b d b8)": api.ErrSorts, "(select x x)": api.ErrSorts, "(select a p)": api.ErrSorts, "(store a 1 p)": api.ErrSorts, "((_ is cons) c)": api.ErrSorts, "((as const Ints) p)": api.ErrSorts, "((_ extract 3 1) x)": api.ErrSorts, "(g x u l)": api.ErrSorts,
		"((as f Bool) x)": api.ErrSorts, "((as x Bool))": api.ErrSorts, "((as + Bool) x y)": api.ErrSorts, "((as cons Color) x l)": api.ErrSorts, "((as = Int) x y)": api.ErrSorts, "((as bvadd (_ BitVec 5)) b d)": api.ErrSorts,
		"((_ extract 1 3) b)": api.ErrParam, "((_ extract 4097 1) b)": api.ErrParam, "((_ extract 1000000000 1) b)": api.ErrParam, "((_ repeat 0) b)": api.ErrParam, "((_ repeat 1000000000) b)": api.ErrParam, "((_ zero_extend 4097) b)": api.ErrParam, "((_ sign_extend 1000000000) b)": api.ErrParam, "((_ rotate_left 4097) b)": api.ErrParam, "((_ rotate_right 1000000000) b)": api.ErrParam, "((as const Int) 1)": api.ErrParam, "((as const U) p)": api.ErrParam,
		"(extract b)": api.ErrParam, "(repeat b)": api.ErrParam, "(zero_extend b)": api.ErrParam, "(rotate_left x)": api.ErrParam, "(const 1)": api.ErrParam, "(extract)": api.ErrArgs, "(const)": api.ErrArgs, "(rotate_right b b)": api.ErrArgs, "((as extract Int) b)": api.ErrParam,
		"(is l)": api.ErrSymbol, "((_ is nobody) l)": api.ErrSymbol, "((_ is head) l)": api.ErrSymbol, "((_ is f) l)": api.ErrSymbol, "((_ is List) l)": api.ErrSymbol, "((_ is double) l)": api.ErrSymbol, "((_ is let) l)": api.ErrSymbol, "((_ is nobody))": api.ErrSymbol,
		"((_ extract 4 0) b)": api.ErrWidth, "((_ repeat 1025) b)": api.ErrWidth, "((_ zero_extend 4093) b)": api.ErrWidth, "(concat b4096 b)": api.ErrWidth, "(concat b b4096 b)": api.ErrWidth,
		"(* x x)": api.ErrLinear, "(* 2 x y)": api.ErrLinear, "(* x 2 y)": api.ErrLinear, "(div x y)": api.ErrLinear, "(div x 0)": api.ErrLinear, "(mod x (- 0))": api.ErrLinear, "(mod x x)": api.ErrLinear, "(div x 2 x)": api.ErrLinear,
	} {
		noTerm(t, e, s, s, want)
		noTerm(t, e, "(let ((k 1)) (f (! "+s+" :k)))", s, want)
	}
}

// P8.4: a name that is declared may be a reserved word; a constructor's may be asked for.
func TestOddNames(t *testing.T) {
	e := env(t)
	ok(t, e.DeclareDatas([]api.Datatype{{Name: "match", Cons: []api.Con{con("forall"), con("_", sel("!", data("match")))}}}))
	isTerm(t, e, "(|_| |forall|)", "(|_| |forall|)")
	isTerm(t, e, "((_ is |forall|) (|!| |forall|))", "((_ is |forall|) (|!| |forall|))")
	isTerm(t, e, "((_ is _) (as |forall| match))", "((_ is |_|) |forall|)")
	isTerm(t, e, "((as |_| |match|) |forall|)", "(|_| |forall|)")
	noTerm(t, e, "((as _ match) |forall|)", "(as _ match)", api.ErrForm)
	noTerm(t, e, "(_ |forall|)", "(_ |forall|)", api.ErrForm)
	isSort(t, e, "(Array match |match|)", array(data("match"), data("match")))
}
