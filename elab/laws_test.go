package elab_test

import (
	"reflect"
	"strconv"
	"testing"

	"tribunal/api"
	"tribunal/elab"
	"tribunal/nat"
	"tribunal/sort"
	"tribunal/term"
	"tribunal/whole"
)

// anyNode is a node that may be a term, over constants often.
func anyNode(d *dice, u *term.Table, constants int) api.Node {
	n := api.Node{Op: api.Op(1 + d.below(int(api.OBvSge)))}
	for range pick(d, []int{0, 1, 1, 2, 2, 2, 3, 4}) {
		n.Args = append(n.Args, d.below(pick(d, []int{constants, u.Len()})))
	}
	n.Name = pick(d, []string{"x", "p", "l", "f", "g", "let", "as", "is so", "nil", "cons", "head", "tail", "light green", "a", "b", "u", "m"})
	n.Int = whole.Of(int64(d.below(20)))
	n.Bits = api.Bits{Width: 1 + d.below(8), Val: nat.Of(uint64(d.below(20)))}
	n.Sort = pick(d, []api.Sort{array(integer, boolean), array(user("my sort"), wide(3)), array(wide(4), array(integer, data("List"))), array(data("Color"), integer)})
	for range pick(d, []int{1, 1, 2}) {
		n.Params = append(n.Params, d.below(6))
	}
	return n
}

// P8.6: the text of a term, read again in its table, is the term.
func TestThereAndBack(t *testing.T) {
	d := dice{86}
	e := env(t)
	ops := map[api.Op]int{}
	for range 60 {
		u := tableOf(t, e)
		for _, name := range []string{"x", "p", "q", "l", "c", "u", "b", "d", "b8", "a"} {
			u.Add(api.Node{Op: api.OFun, Name: name})
		}
		constants := u.Len()
		for _, n := range []api.Node{{Op: api.OSel, Name: "tail", Args: []int{3}}, {Op: api.OSel, Name: "head", Args: []int{3}}, {Op: api.OStore, Args: []int{9, 0, 0}}, {Op: api.OIs, Name: "cons", Args: []int{3}}} {
			u.Add(n)
		}
		for range 15000 {
			u.Add(anyNode(&d, u, constants))
		}
		many := u.Len()
		for i := range many {
			text, bad := u.Text(i)
			if bad != api.OK || len(text) > 3000 {
				continue
			}
			n, _ := u.Node(i)
			ops[n.Op]++
			nodes, root := read(t, text)
			if got, at, bad := e.Term(u, nodes, root); got != i || at != 0 || bad != api.OK {
				t.Fatalf("%s: %d, error %d at %q; want %d", brief(text), got, bad, textOf(nodes, at), i)
			}
		}
		if u.Len() != many {
			t.Fatalf("%d terms more", u.Len()-many)
		}
	}
	for op := api.OTrue; op <= api.OBvSge; op++ {
		if ops[op] < 3 && (op <= api.OIs || op >= api.ONum && op <= api.OConst || op >= api.OBits) {
			t.Errorf("Op %d: %d terms", op, ops[op])
		}
	}
}

// meant is an s-expression, and what it means without let, notes and definitions, where args stand in the places of a definition's parameters.
type meant struct {
	with  string
	plain func(args []string) string
}

func always(s string) meant { return meant{s, func([]string) string { return s }} }

// over is a head with arguments.
func over(head string, parts ...meant) meant {
	with := "(" + head
	for _, p := range parts {
		with += " " + p.with
	}
	return meant{with + ")", func(args []string) string {
		plain := "(" + head
		for _, p := range parts {
			plain += " " + p.plain(args)
		}
		return plain + ")"
	}}
}

type named struct {
	name string
	sort api.Sort
	is   meant
}

type defined struct {
	name   string
	params []api.Sel
	ret    api.Sort
	body   meant
}

// author makes s-expressions up.
type author struct {
	dice
	bound []named // the innermost last
	defs  []defined
	bad   string // what is to stand where a leaf may, once
	done  bool   // it does
}

func someSorts() []api.Sort {
	return []api.Sort{boolean, integer, data("List"), wide(4), array(integer, integer)}
}

// write is an s-expression of a sort.
func (a *author) write(s api.Sort, depth int) meant {
	switch n := a.below(10); {
	case depth <= 0 || n == 0:
		return a.leaf(s)
	case n < 3:
		return a.let(s, depth)
	case n == 3:
		p := a.write(s, depth-1)
		return meant{"(! " + p.with + " :note (anyone) 2.5)", p.plain}
	case n < 6:
		return a.apply(s, depth)
	}
	return a.operator(s, depth)
}

// leaf is a name that is bound, or a constant.
func (a *author) leaf(s api.Sort) meant {
	if a.bad != "" && !a.done && a.below(4) == 0 {
		a.done = true
		return always(a.bad)
	}
	if len(a.bound) > 0 && a.below(4) > 0 {
		if i := a.below(len(a.bound)); a.visible(i) && sort.Same(a.bound[i].sort, s) {
			return meant{pick(&a.dice, []string{a.bound[i].name, "|" + a.bound[i].name + "|"}), a.bound[i].is.plain}
		}
	}
	text := map[string][]string{"Bool": {"p", "q", "true", "false"}, "Int": {"x", "y", "7", "|let|"}, "List": {"l", "nil"}, "(_ BitVec 4)": {"b", "d", "#b0110"}, "(Array Int Int)": {"a"}}
	sorted, _ := sort.Text(s)
	leaf := pick(&a.dice, text[sorted])
	for _, b := range a.bound {
		if b.name == leaf { // it is hidden here: an application still is what it was, but not of a bound name
			return always(map[string]string{"Bool": "(= 1 2)", "Int": "8", "List": "(tail (cons 1 nil))", "(_ BitVec 4)": "#x7", "(Array Int Int)": "((as const Ints) 5)"}[sorted])
		}
	}
	return always(leaf)
}

// visible tells whether no binding within hides that one.
func (a *author) visible(i int) bool {
	for _, b := range a.bound[i+1:] {
		if b.name == a.bound[i].name {
			return false
		}
	}
	return true
}

// let binds names, some of which are bound already or declared.
func (a *author) let(s api.Sort, depth int) meant {
	names := []string{"k", "n", "x", "p", "true", "b", "l", "a", "five", "is"}
	from := a.below(len(names))
	var pairs []named
	text := "(let ("
	for i := range 1 + a.below(3) {
		sorted := pick(&a.dice, someSorts())
		is := a.write(sorted, depth-1)
		pairs = append(pairs, named{names[(from+i)%len(names)], sorted, is})
		text += "(" + pairs[i].name + " " + is.with + ")"
	}
	outer := len(a.bound)
	a.bound = append(a.bound, pairs...)
	body := a.write(s, depth-1)
	a.bound = a.bound[:outer]
	return meant{text + ") " + body.with + ")", body.plain}
}

// apply applies what is defined.
func (a *author) apply(s api.Sort, depth int) meant {
	if len(a.defs) == 0 {
		return a.leaf(s)
	}
	d := pick(&a.dice, a.defs)
	if !sort.Same(d.ret, s) {
		return a.operator(s, depth)
	}
	var args []meant
	for _, p := range d.params {
		args = append(args, a.write(p.Sort, depth-1))
	}
	with := over(d.name, args...).with
	if len(args) == 0 && a.below(2) == 0 {
		with = d.name
	}
	return meant{with, func(outer []string) string {
		var plain []string
		for _, arg := range args {
			plain = append(plain, arg.plain(outer))
		}
		return d.body.plain(plain)
	}}
}

func (a *author) operator(s api.Sort, depth int) meant {
	w := func(s api.Sort) meant { return a.write(s, depth-1) }
	list, bits, ints := data("List"), wide(4), array(integer, integer)
	if a.below(4) == 0 {
		return over("ite", w(boolean), w(s), w(s))
	}
	switch n := a.below(4); s.Kind {
	case api.KBool:
		return []func() meant{
			func() meant { return over("=>", w(boolean), w(boolean), w(boolean)) },
			func() meant { return over("<", w(integer), w(integer), w(integer)) },
			func() meant { return over("(_ is cons)", w(list)) },
			func() meant { return over("=", w(bits), w(bits)) },
		}[n]()
	case api.KInt:
		return []func() meant{
			func() meant { return over("-", w(integer), w(integer), w(integer)) },
			func() meant { return over("+", w(integer), always("3"), w(integer)) },
			func() meant { return over("head", w(list)) },
			func() meant { return over("select", w(ints), w(integer)) },
		}[n]()
	case api.KData:
		return over("cons", w(integer), w(list))
	case api.KBits:
		return over(pick(&a.dice, []string{"bvadd", "bvand", "bvshl", "(as bvor (_ BitVec 4))"}), w(bits), w(bits))
	}
	return over("store", w(ints), w(integer), w(integer))
}

// define makes definitions up, some of which lean on those ahead of them.
func (a *author) define(t *testing.T, e *elab.Env, many int) {
	t.Helper()
	for i := range many {
		d := defined{name: "d" + strconv.Itoa(i), ret: pick(&a.dice, someSorts())}
		for j, name := range []string{"k", "x", "true"}[:a.below(4)] {
			s := pick(&a.dice, someSorts())
			d.params = append(d.params, sel(name, s))
			a.bound = append(a.bound, named{name, s, meant{name, func(args []string) string { return args[j] }}})
		}
		d.body = a.write(d.ret, 2)
		a.bound = nil
		defines(t, e, d.name, d.ret, d.body.with, d.params...)
		a.defs = append(a.defs, d)
	}
}

// P8.7, P8.9: what let and definitions bind stands for what it is bound to; a term has the sort that it was made for.
func TestLetAndDefinitions(t *testing.T) {
	for seed := range uint64(150) {
		a := author{dice: dice{870 + seed}}
		e := env(t)
		a.define(t, e, 6)
		u := tableOf(t, e)
		for range 15 {
			s := pick(&a.dice, someSorts())
			m := a.write(s, 4)
			plain := m.plain(nil)
			if len(plain) > 100000 {
				continue
			}
			nodes, root := read(t, m.with)
			i, at, bad := e.Term(u, nodes, root)
			if at != 0 || bad != api.OK {
				t.Fatalf("%s: error %d at %q", m.with, bad, textOf(nodes, at))
			}
			nodes, root = read(t, plain)
			if j, _, bad := e.Term(u, nodes, root); j != i || bad != api.OK {
				t.Fatalf("%s: %d, error %d; %d is %s", plain, j, bad, i, m.with)
			}
			if got, _ := u.Sort(i); !reflect.DeepEqual(got, s) {
				t.Fatalf("%s: %+v; want %+v", m.with, got, s)
			}
		}
	}
}

// P8.4: one fault, wherever it is, is told where it is; nothing is changed by it.
func TestOneFault(t *testing.T) {
	faults := map[string]api.Errno{"nobody": api.ErrUnbound, "1.5": api.ErrForm, "()": api.ErrForm, "(f)": api.ErrArgs, "(not 17)": api.ErrSorts, "(* z z)": api.ErrLinear, "(_ bv4 2)": api.ErrWidth, "((_ repeat 0) b8)": api.ErrParam, "(_ z 1)": api.ErrForm, "(push 1)": api.ErrForm, "g": api.ErrArgs, "(as r Int)": api.ErrSorts, "(double r)": api.ErrSorts}
	e := env(t)
	told := 0
	for seed := range uint64(400) {
		for bad, want := range faults {
			a := author{dice: dice{940 + seed}, bad: bad}
			m := a.write(boolean, 3)
			if a.done {
				noTerm(t, e, m.with, bad, want)
				told++
			}
		}
	}
	if told < 1000 {
		t.Errorf("%d faults", told)
	}
}

// P8.9: what is bound is never seen outside.
func TestNothingIsSeenOutside(t *testing.T) {
	e := env(t)
	before := state(t, e)
	u := tableOf(t, e)
	for _, s := range []string{"(let ((n 1) (k p)) (and k (= n 1)))", "(let ((n 1)) nobody)", "(let ((n 1)) (let ((o 2)) (f (f nobody))))", "(let ((n nobody)) n)", "(double (let ((k 1)) k))", "(let ((k 1)) (double p))", "(both p (let ((from p)) 5))"} {
		nodes, root := read(t, s)
		e.Term(u, nodes, root)
		noTerm(t, e, "n", "n", api.ErrUnbound)
		same(t, before, state(t, e))
		e.Sort(nodes, root)
		e.SortAmong([]string{"V", "k"}, nodes, root)
		e.DefineSort("V", []string{"n", "k"}, nodes, root)
		e.DefineFun("six", []api.Sel{sel("n", boolean)}, data("Color"), nodes, root)
		same(t, before, state(t, e))
	}
}
