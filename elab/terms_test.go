package elab_test

import (
	"strings"
	"testing"

	"tribunal/api"
	"tribunal/elab"
	"tribunal/term"
)

// P8.4: atoms of each kind.
func TestAtoms(t *testing.T) {
	e := env(t)
	for s, want := range map[string]string{
		"0": "0", "17": "17", "340282366920938463463374607431768211456": "340282366920938463463374607431768211456",
		"#b0": "#b0", "#b0101": "#b0101", "#x0a": "#b00001010", "#xF": "#b1111", "#b" + strings.Repeat("01", 2048): "#b" + strings.Repeat("01", 2048), "#x" + strings.Repeat("7", 1024): "#b" + strings.Repeat("0111", 1024),
		"true": "true", "|true|": "true", "false": "false", "x": "x", "|x|": "x", "|let|": "|let|", "nil": "nil", "|light green|": "|light green|", "five": "5", "|five|": "5",
	} {
		isTerm(t, e, s, want)
	}
	for s, want := range map[string]api.Errno{
		"1.5": api.ErrForm, `"x"`: api.ErrForm, ":x": api.ErrForm, "let": api.ErrForm, "_": api.ErrForm, "!": api.ErrForm, "as": api.ErrForm, "forall": api.ErrForm, "par": api.ErrForm, "BINARY": api.ErrForm, "check-sat": api.ErrForm, "set-option": api.ErrForm,
		"nobody": api.ErrUnbound, "X": api.ErrUnbound, "U": api.ErrUnbound, "Int": api.ErrUnbound, "|_|": api.ErrUnbound, "|forall|": api.ErrUnbound, "||": api.ErrUnbound, "|a\nb|": api.ErrUnbound, "@x": api.ErrUnbound, ".x": api.ErrUnbound, "bv5": api.ErrUnbound, strings.Repeat("x", 300): api.ErrUnbound, "-1": api.ErrUnbound,
		"f": api.ErrArgs, "cons": api.ErrArgs, "head": api.ErrArgs, "double": api.ErrArgs, "is": api.ErrArgs, "extract": api.ErrArgs, "const": api.ErrArgs, "|as|": api.ErrArgs, "|+|": api.ErrArgs,
		"#b" + strings.Repeat("0", 4097): api.ErrWidth, "#x" + strings.Repeat("0", 1025): api.ErrWidth, "#x" + strings.Repeat("f", 300000): api.ErrWidth, "#b" + strings.Repeat("1", 300000): api.ErrWidth,
		"1" + strings.Repeat("0", 79000): api.ErrBig,
	} {
		noTerm(t, e, s, s, want)
	}
	for _, name := range predefinedFuns() {
		if name != "true" && name != "false" {
			noTerm(t, e, name, name, api.ErrArgs)
		}
	}
}

// A numeral of as many limbs as may be, at many places, and one that is too great.
func TestGreatNumerals(t *testing.T) {
	e := env(t)
	u := tableOf(t, e)
	l := []api.Sexp{word("+"), numeral("1" + strings.Repeat("0", 78000))}
	l = append(l, list(append([]int{0}, times(1, api.MaxArgs)...)...))
	l = append(l, list(append([]int{0}, times(2, api.MaxArgs)...)...))
	l = append(l, list(append([]int{0}, times(3, 50)...)...))
	if i, at, bad := e.Term(u, l, 4); i != 3 || at != 0 || bad != api.OK {
		t.Errorf("%d, %d, error %d", i, at, bad)
	}
	n, _ := u.Node(0)
	if len(n.Int.Mag) < 4000 || n.Int.Neg {
		t.Errorf("%d limbs", len(n.Int.Mag))
	}
}

// P8.4: let, in the scope without what it binds; then the body with it.
func TestLet(t *testing.T) {
	e := env(t)
	for s, want := range map[string]string{
		"(let ((k 1)) k)":                                           "1",
		"(let ((k (+ x 1))) (< x k 3))":                             "(and (< x (+ x 1)) (< (+ x 1) 3))",
		"(let ((x y) (y x)) (- x y))":                               "(- y x)",
		"(let ((k x)) (let ((k (+ k 1))) (+ k k)))":                 "(+ (+ x 1) (+ x 1))",
		"(+ (let ((x 1)) x) x (let ((x 2) (n x)) (+ x n)))":         "(+ 1 x (+ 2 x))",
		"(let ((x 1)) (+ (let ((x 2)) (+ x (let ((x 3)) x) x)) x))": "(+ (+ 2 3 2) 1)",
		"(let ((k (let ((k 2)) (+ k x)))) (* 3 k))":                 "(* 3 (+ 2 x))",
		"(let ((|k| 1) (|a b| 2)) (+ k |a b| |k|))":                 "(+ 1 2 1)",
		"(let ((true false) (false true)) (and true false))":        "(and false true)",
		"(let ((let 1)) |let|)":                                     "1",
		"(let ((_ 1) (as 2)) (+ |_| |as|))":                         "(+ 1 2)",
		"(let ((cons nil) (f x)) (= cons l))":                       "(= nil l)",
		"(let ((five 6) (x five)) (+ five x))":                      "(+ 6 5)",
		"(let ((+ 1) (and p)) (or |and| q))":                        "(or p q)",
		"(let ((Int 1)) (= Int ((as f Int) (as Int Int))))":         "(= 1 (f 1))",
		"(let ((k 1)) (! k :named k))":                              "1",
		"(let ((c x) (d p) (e (not p))) (ite d c (ite e 1 2)))":     "(ite p x (ite (not p) 1 2))",
		"(let ((n 1)) ((as const Ints) n))":                         "((as const (Array Int Int)) 1)",
		"(let ((cons 1) (extract 2) (is 3) (const 4) (bv5 6)) (ite ((_ is cons) l) ((_ extract 3 0) b8) (bvadd (_ bv5 4) (select ((as const (Array Bool (_ BitVec 4))) b) p))))": "(ite ((_ is cons) l) ((_ extract 3 0) b8) (bvadd #b0101 (select ((as const (Array Bool (_ BitVec 4))) b) p)))",
	} {
		isTerm(t, e, s, want)
	}
}

// P8.4: faults of let, with their nodes; forms ahead of names, these ahead of what stands twice, all ahead of terms.
func TestFaultsOfLet(t *testing.T) {
	e := env(t)
	for _, c := range []struct {
		s, node string
		want    api.Errno
	}{
		{"(let)", "", api.ErrForm}, {"(let ((k 1)))", "", api.ErrForm}, {"(let ((k 1)) k k)", "", api.ErrForm}, {"(let () nobody)", "", api.ErrForm}, {"(let k 1)", "", api.ErrForm}, {"(let nobody nobody)", "", api.ErrForm}, {"(let 5 nobody)", "", api.ErrForm},
		{"(let (k 1) k)", "k", api.ErrForm}, {"(let (5 (k 1)) nobody)", "5", api.ErrForm}, {"(let (()) p)", "()", api.ErrForm}, {"(let ((k)) p)", "(k)", api.ErrForm}, {"(let ((k 1 2)) p)", "(k 1 2)", api.ErrForm}, {"(let ((5 1)) p)", "(5 1)", api.ErrForm}, {"(let ((:k 1)) p)", "(:k 1)", api.ErrForm},
		{`(let (("k" 1)) p)`, `("k" 1)`, api.ErrForm}, {"(let (((k) 1)) p)", "((k) 1)", api.ErrForm}, {"(let ((n nobody) (k)) p)", "(k)", api.ErrForm},
		{"(let ((|| 1)) p)", "||", api.ErrName}, {"(let ((@k 1)) p)", "@k", api.ErrName}, {"(let ((k 1) (.k nobody)) nobody)", ".k", api.ErrName}, {"(let ((|k\n| 1)) nobody)", "|k\n|", api.ErrName}, {"(let ((" + strings.Repeat("k", 201) + " 1)) p)", strings.Repeat("k", 201), api.ErrName},
		{"(let ((|| 1) (k 1) (k 2) (n)) p)", "(n)", api.ErrForm}, {"(let ((k 1) (k 2) (@n 3)) p)", "@n", api.ErrName},
		{"(let ((k nobody)) (f nobody2))", "nobody", api.ErrUnbound}, {"(let ((k 1)) (+ k nobody))", "nobody", api.ErrUnbound}, {"(+ (let ((k 1)) 2) n)", "n", api.ErrUnbound},
		{"(let ((k (not x)) (n nobody)) nobody)", "(not x)", api.ErrSorts},
	} {
		node := c.node
		if node == "" {
			node = c.s
		}
		noTerm(t, e, c.s, node, c.want)
	}
	noTermAt(t, e, "(let ((y 1) (y 2)) y)", fault{"y", 1, api.ErrTwice})
	noTermAt(t, e, "(let ((y 1) (|y| nobody)) y)", fault{"|y|", 0, api.ErrTwice})
	noTermAt(t, e, "(let ((n 1) (y nobody) (k 2) (y 3) (n 4)) y)", fault{"y", 1, api.ErrTwice})
	noTermAt(t, e, "(let ((k 1) (n k)) n)", fault{"k", 1, api.ErrUnbound})
	noTermAt(t, e, "(let ((f 1)) (f f))", fault{"f", 1, api.ErrUnbound})
	noTermAt(t, e, "(let ((f 1)) (let ((k 2)) (f 1)))", fault{"f", 1, api.ErrUnbound})
	noTermAt(t, e, "(let ((+ 1)) (+ 1 2))", fault{"+", 1, api.ErrUnbound})
	noTermAt(t, e, "(let ((double 1)) ((as double Int) 1))", fault{"(as double Int)", 0, api.ErrUnbound})
	isTerm(t, e, "(let ((k (let ((f 1)) f))) (f k))", "(f 1)")
}

// P8.4: (! t :k ..) and (as f s).
func TestNotesAndSorts(t *testing.T) {
	e := env(t)
	for s, want := range map[string]string{
		"(! x :named)": "x", "(! (+ x 1) :named k)": "(+ x 1)", "(! p :k nobody (5) :n () \"a\" 1.5 (let))": "p", "(! (! x :a) :b c :d)": "x",
		"(as x Int)": "x", "(as nil List)": "nil", "(as |nil| |List|)": "nil", "(as five Int)": "5", "(as true Bool)": "true", "(as a Ints)": "a", "(as a (Pair Int))": "a", "(as |let| Int)": "|let|", "(let ((k p)) (as k Bool))": "p", "(cons (as x Int) (as nil List))": "(cons x nil)",
	} {
		isTerm(t, e, s, want)
	}
	for _, c := range []struct {
		s, node string
		want    api.Errno
	}{
		{"(!)", "(!)", api.ErrForm}, {"(! x)", "(! x)", api.ErrForm}, {"(! nobody)", "(! nobody)", api.ErrForm}, {"(! x named :k)", "(! x named :k)", api.ErrForm}, {"(! x (:k))", "(! x (:k))", api.ErrForm}, {"(! :k x)", "(! :k x)", api.ErrForm}, {`(! nobody "k")`, `(! nobody "k")`, api.ErrForm}, {"(! nobody :k)", "nobody", api.ErrUnbound}, {"(! :n :k)", ":n", api.ErrForm},
		{"(as)", "(as)", api.ErrForm}, {"(as x)", "(as x)", api.ErrForm}, {"(as x Int Int)", "(as x Int Int)", api.ErrForm}, {"(as 5 Int)", "(as 5 Int)", api.ErrForm}, {"(as (f x) Int)", "(as (f x) Int)", api.ErrForm}, {"(as (x) Nobody)", "(as (x) Nobody)", api.ErrForm}, {"(as :x Int)", "(as :x Int)", api.ErrForm},
		{"(as let Int)", "let", api.ErrForm}, {"(as nobody Nobody)", "nobody", api.ErrUnbound}, {"(as cons List)", "cons", api.ErrArgs}, {"(as double Nobody)", "double", api.ErrArgs}, {"(as x Nobody)", "Nobody", api.ErrUnbound}, {"(as x (Array Int))", "(Array Int)", api.ErrArgs}, {"(as x 5)", "5", api.ErrForm}, {"(as x (Array Int (_ BitVec 0)))", "(_ BitVec 0)", api.ErrSort},
		{"(as x Bool)", "(as x Bool)", api.ErrSorts}, {"(as nil Color)", "(as nil Color)", api.ErrSorts}, {"(as five (_ BitVec 4))", "(as five (_ BitVec 4))", api.ErrSorts}, {"(as b (_ BitVec 5))", "(as b (_ BitVec 5))", api.ErrSorts}, {"(as a (Array Int Bool))", "(as a (Array Int Bool))", api.ErrSorts},
	} {
		noTerm(t, e, c.s, c.node, c.want)
	}
}

// P8.4: (_ bvN w).
func TestNumberedBits(t *testing.T) {
	e := env(t)
	for s, want := range map[string]string{
		"(_ bv5 4)": "#b0101", "(_ bv0 1)": "#b0", "(_ bv15 4)": "#b1111", "(_ |bv5| 8)": "#b00000101", "(_ bv1 4096)": "#b" + strings.Repeat("0", 4095) + "1", "(_ bv18446744073709551616 65)": "#b1" + strings.Repeat("0", 64),
	} {
		isTerm(t, e, s, want)
	}
	for s, want := range map[string]api.Errno{
		"(_)": api.ErrForm, "(_ bv5)": api.ErrForm, "(_ bv5 4 4)": api.ErrForm, "(_ bv5 x)": api.ErrForm, "(_ bv5 (4))": api.ErrForm, "(_ bv5 #b1)": api.ErrForm, "(_ bv 4)": api.ErrForm, "(_ |5| 4)": api.ErrForm, "(_ |b5| 4)": api.ErrForm, "(_ bv05 4)": api.ErrForm, "(_ bv00 4)": api.ErrForm, "(_ bv-5 4)": api.ErrForm, "(_ bv+5 4)": api.ErrForm, "(_ bv5x 4)": api.ErrForm, "(_ bvadd 4)": api.ErrForm, "(_ |bv5 | 4)": api.ErrForm, "(_ |bv 5| 4)": api.ErrForm, "(_ |bv5)| 4)": api.ErrForm, "(_ |bv| 4)": api.ErrForm, "(_ BV5 4)": api.ErrForm, "(_ v5 4)": api.ErrForm, "(_ 5 4)": api.ErrForm, "(_ (bv5) 4)": api.ErrForm, "(_ bv1.5 4)": api.ErrForm, "(_ bv5 -4)": api.ErrForm,
		"(_ extract 3 1)": api.ErrForm, "(_ is cons)": api.ErrForm, "(_ repeat 2)": api.ErrForm, "(_ nobody 4)": api.ErrForm, `(_ "bv5" 4)`: api.ErrForm, "(_ :bv5 4)": api.ErrForm,
		"(_ bv16 4)": api.ErrWidth, "(_ bv1 0)": api.ErrWidth, "(_ bv0 0)": api.ErrWidth, "(_ bv1 4097)": api.ErrWidth, "(_ bv1 1000000000)": api.ErrWidth, "(_ bv1 1000000001)": api.ErrWidth, "(_ bv1 18446744073709551620)": api.ErrWidth, "(_ bv1" + strings.Repeat("0", 2000) + " 4096)": api.ErrWidth, "(_ bv1" + strings.Repeat("0", 80000) + " 4)": api.ErrWidth,
	} {
		noTerm(t, e, s, s, want)
	}
}

// P8.4: reserved words at the head; all others are names, as are those between bars.
func TestReservedHeads(t *testing.T) {
	e := env(t)
	reserved := strings.Fields("BINARY DECIMAL exists forall HEXADECIMAL match NUMERAL par STRING assert check-sat check-sat-assuming declare-const declare-datatype declare-datatypes declare-fun declare-sort define-fun define-sort echo exit get-assertions get-info get-model get-value pop push reset reset-assertions set-info set-logic set-option")
	for _, name := range reserved {
		noTerm(t, e, "("+name+" nobody x)", "("+name+" nobody x)", api.ErrForm)
		noTerm(t, e, "("+name+")", "("+name+")", api.ErrForm)
		noTerm(t, e, name, name, api.ErrForm)
		noTerm(t, e, "(as "+name+" Int)", name, api.ErrForm)
		noTerm(t, e, "((as "+name+" Int) x)", "(as "+name+" Int)", api.ErrForm)
		noTerm(t, e, "(|"+name+"| nobody)", "|"+name+"|", api.ErrUnbound)
		noTerm(t, e, "|"+name+"|", "|"+name+"|", api.ErrUnbound)
	}
	isTerm(t, e, "(|as| x)", "(|as| x)")
	isTerm(t, e, "((as |as| Int) x)", "(|as| x)")
	isTerm(t, e, "(|let|)", "|let|")
	noTerm(t, e, "(|_| bv5 4)", "|_|", api.ErrUnbound)
	noTerm(t, e, "(|!| x :k)", "|!|", api.ErrUnbound)
	noTerm(t, e, "()", "()", api.ErrForm)
	noTerm(t, e, "(f ())", "()", api.ErrForm)
}

// P8.4: ErrNil, then ErrArg: no table, or one over another signature; then ErrShape.
func TestTables(t *testing.T) {
	e := env(t)
	g := e.Sig()
	var odd []api.Sig
	for range 12 {
		odd = append(odd, e.Sig())
	}
	odd[0].Users = append(odd[0].Users, "V")
	odd[1].Users[0], odd[1].Users[1] = odd[1].Users[1], odd[1].Users[0]
	odd[2].Datas[0], odd[2].Datas[1] = odd[2].Datas[1], odd[2].Datas[0]
	odd[3].Funs[0], odd[3].Funs[1] = odd[3].Funs[1], odd[3].Funs[0]
	odd[4].Funs = append(odd[4].Funs, fun("more", integer))
	odd[5].Funs[1].Ret = boolean
	odd[6].Datas[0].Cons[1].Sels[0].Sort = boolean
	odd[7].Datas[0].Cons[1].Sels[0].Name = "first"
	odd[8].Datas[0].Cons[0].Name = "none"
	odd[9].Datas[1].Cons = odd[9].Datas[1].Cons[:1]
	odd[10].Funs[len(odd[10].Funs)-1].Args[0] = boolean
	odd[11].Datas = append(odd[11].Datas, api.Datatype{Name: "More", Cons: []api.Con{con("most")}})
	odd = append(odd, api.Sig{})
	nodes, root := read(t, "(+ x nobody)")
	for i, g := range odd {
		u, bad := term.New(g)
		ok(t, bad)
		for _, at := range []int{root, -5, 1 << 40} {
			if i2, at, bad := e.Term(u, nodes, at); i2 != 0 || at != 0 || bad != api.ErrArg || u.Len() != 0 {
				t.Errorf("signature %d: %d, %d, error %d", i, i2, at, bad)
			}
		}
	}
	if i, at, bad := e.Term(nil, nodes, 77); i != 0 || at != 0 || bad != api.ErrArg {
		t.Errorf("no table: %d, %d, error %d", i, at, bad)
	}
	if i, at, bad := e.Term(&term.Table{}, nodes, root); i != 0 || at != 0 || bad != api.ErrArg {
		t.Errorf("a table that nobody made: %d, %d, error %d", i, at, bad)
	}
	yes, root := read(t, "true")
	if i, at, bad := elab.New().Term(nil, yes, root); i != 0 || at != 0 || bad != api.ErrArg {
		t.Errorf("no table, where nothing is declared: %d, %d, error %d", i, at, bad)
	}
	one := elab.New()
	ok(t, one.DeclareDatas([]api.Datatype{{Name: "D", Cons: []api.Con{con("d")}}}))
	other, _ := term.New(api.Sig{Datas: []api.Datatype{{Name: "E", Cons: []api.Con{con("d")}}}})
	if i, at, bad := one.Term(other, yes, root); i != 0 || at != 0 || bad != api.ErrArg {
		t.Errorf("another datatype's name: %d, %d, error %d", i, at, bad)
	}
	if i, at, bad := elab.New().Term(&term.Table{}, yes, root); i != 0 || at != 0 || bad != api.ErrNil {
		t.Errorf("a table that nobody made, where nothing is declared: %d, %d, error %d", i, at, bad)
	}
	u, _ := term.New(g)
	ok(t, e.Push(1))
	if i, at, bad := e.Term(u, yes, root); i != 0 || at != 0 || bad != api.OK {
		t.Errorf("a table over the same: %d, %d, error %d", i, at, bad)
	}
	ok(t, e.DeclareSort("V"))
	if _, _, bad := e.Term(u, yes, root); bad != api.ErrArg {
		t.Errorf("a table over less: error %d", bad)
	}
	ok(t, e.Pop(1))
	if _, _, bad := e.Term(u, yes, root); bad != api.OK {
		t.Errorf("a table over the same again: error %d", bad)
	}
}

// P8.4: what is made on the way stays, also behind an error; what is there already is taken.
func TestMadeOnTheWay(t *testing.T) {
	e := env(t)
	u := tableOf(t, e)
	makes := func(s string, want int, terms ...string) {
		t.Helper()
		before := u.Len()
		nodes, root := read(t, s)
		if i, _, _ := e.Term(u, nodes, root); i != want {
			t.Errorf("%s: %d; want %d", s, i, want)
		}
		if u.Len() != before+len(terms) {
			t.Errorf("%s: %d new terms; want %d", s, u.Len()-before, len(terms))
		}
		for i, want := range terms {
			if text, _ := u.Text(before + i); text != want {
				t.Errorf("%s: term %d is %s; want %s", s, before+i, text, want)
			}
		}
	}
	makes("(+ 1 x)", 2, "1", "x", "(+ 1 x)")
	makes("(+ 1 x)", 2)
	makes("(* (+ 1 x) (- y))", 0, "y", "(- y)")
	makes("(< x y 7 nobody)", 0, "7")
	makes("(< x y 7 p)", 0, "p", "(< x y)", "(< y 7)")
	makes("(- x y 7)", 10, "(- x y)", "(- (- x y) 7)")
	makes("(double (and p x))", 0)
	makes("(double p)", 0)
	makes("(=> q p p)", 13, "q", "(=> p p)", "(=> q (=> p p))")
	makes("(let ((k 8) (n 9)) nobody)", 0, "8", "9")
	makes("(as five Bool)", 0, "5")
	makes("(double 9)", 17, "(+ 9 9)")
	makes("((as double Bool) 8)", 0, "(+ 8 8)")
	makes("(= 1 x y)", 21, "(= 1 x)", "(= x y)", "(and (= 1 x) (= x y))")
	makes("((_ extract 9 0) b)", 0, "b")
	makes("((_ extract 1000000001 0) d)", 0)
}

// P8.4: in a full table what is there is still found; all else is one too many, told at the application if it is within a body.
func TestFullTable(t *testing.T) {
	e := env(t)
	defines(t, e, "sum", integer, "(+ (double n) 1)", sel("n", integer))
	u := tableOf(t, e)
	nodes, root := read(t, "(sum (* 3 x))")
	want, _, _ := e.Term(u, nodes, root)
	u.Add(api.Node{Op: api.OFun, Name: "y"})
	for i := 0; u.Len() < api.MaxTerms; i++ {
		u.Add(api.Node{Op: api.ONum, Int: api.Int{Mag: api.Nat{uint64(i)}}})
	}
	if i, at, bad := e.Term(u, nodes, root); i != want || at != 0 || bad != api.OK {
		t.Errorf("%d, %d, error %d; want %d", i, at, bad, want)
	}
	for s, place := range map[string]string{"z": "z", "(+ y 1)": "(+ y 1)", "(+ 1 (sum y))": "(sum y)", "(double (double y))": "(double y)", "(- (_ bv1 77))": "(_ bv1 77)", "(let ((k p)) nobody)": "p", "(+ (sum (* 3 x)) z)": "z"} {
		nodes, root := read(t, s)
		if i, at, bad := e.Term(u, nodes, root); i != 0 || at != find(t, nodes, root, fault{node: place}) || bad != api.ErrMany {
			t.Errorf("%s: %d, error %d at %q", s, i, bad, textOf(nodes, at))
		}
	}
}
