package rewrite_test

import (
	"fmt"
	"math/big"
	"slices"
	"strings"
	"testing"

	"tribunal/api"
	"tribunal/rewrite"
	"tribunal/sort"
	"tribunal/term"
)

var (
	boolean = api.Sort{Kind: api.KBool}
	integer = api.Sort{Kind: api.KInt}
)

func data(name string) api.Sort { return api.Sort{Kind: api.KData, Name: name} }

func user(name string) api.Sort { return api.Sort{Kind: api.KUser, Name: name} }

func wide(n int) api.Sort { return api.Sort{Kind: api.KBits, Width: n} }

func array(from, to api.Sort) api.Sort { return api.Sort{Kind: api.KArray, Args: []api.Sort{from, to}} }

func sel(name string, s api.Sort) api.Sel { return api.Sel{Name: name, Sort: s} }

func con(name string, sels ...api.Sel) api.Con { return api.Con{Name: name, Sels: sels} }

func fun(name string, ret api.Sort, args ...api.Sort) api.Fun {
	return api.Fun{Name: name, Args: args, Ret: ret}
}

// some is a signature with functions over all kinds of sorts.
func some() api.Sig {
	return api.Sig{
		Users: []string{"U"},
		Datas: []api.Datatype{
			{Name: "List", Cons: []api.Con{con("nil"), con("cons", sel("head", integer), sel("tail", data("List")))}},
			{Name: "Color", Cons: []api.Con{con("red"), con("green"), con("blue")}},
			{Name: "Pair", Cons: []api.Con{con("pair", sel("first", data("Color")), sel("second", boolean))}},
			{Name: "Unit", Cons: []api.Con{con("unit")}},
			{Name: "Shape", Cons: []api.Con{con("dot"), con("round", sel("radius", integer)), con("box", sel("width", integer), sel("lid", boolean), sel("inside", data("Shape")))}},
		},
		Funs: []api.Fun{
			fun("p", boolean), fun("q", boolean), fun("r", boolean), fun("x", integer), fun("y", integer), fun("z", integer), fun("u", user("U")), fun("v", user("U")), fun("w", user("U")),
			fun("b", wide(4)), fun("d", wide(4)), fun("e", wide(1)), fun("g", wide(8)),
			fun("l", data("List")), fun("m", data("List")), fun("c", data("Color")), fun("pr", data("Pair")), fun("s", data("Shape")), fun("un", data("Unit")),
			fun("a", array(integer, integer)), fun("a2", array(integer, integer)), fun("ab", array(boolean, boolean)), fun("av", array(wide(4), integer)), fun("au", array(user("U"), wide(4))),
			fun("f", integer, integer), fun("h", boolean, user("U"), boolean), fun("k", wide(4), wide(4), wide(4)), fun("next", data("List"), data("List")),
		},
	}
}

// world is a table in a test.
type world struct {
	*testing.T
	*term.Table
}

func newWorld(t *testing.T, g api.Sig) *world {
	t.Helper()
	b, e := term.New(g)
	if e != api.OK {
		t.Fatalf("New: error %d", e)
	}
	return &world{t, b}
}

// put adds a term that may be.
func (w *world) put(n api.Node) int {
	w.Helper()
	i, e := w.Add(n)
	if e != api.OK {
		w.Fatalf("Add of Op %d, %q, Params %v, Args %v: error %d", n.Op, n.Name, n.Params, n.Args, e)
	}
	return i
}

func (w *world) of(op api.Op, args ...int) int {
	w.Helper()
	return w.put(api.Node{Op: op, Args: args})
}

func (w *world) num(n int64) int {
	w.Helper()
	return w.great(big.NewInt(n))
}

func (w *world) great(n *big.Int) int {
	w.Helper()
	return w.put(api.Node{Op: api.ONum, Int: intOf(n)})
}

// fun is a function without arguments.
func (w *world) fun(name string) int {
	w.Helper()
	return w.put(api.Node{Op: api.OFun, Name: name})
}

// intOf is a number in canonical form.
func intOf(n *big.Int) api.Int { return api.Int{Neg: n.Sign() < 0, Mag: limbsOf(n)} }

func limbsOf(n *big.Int) api.Nat {
	var mag api.Nat
	for rest := new(big.Int).Abs(n); rest.Sign() > 0; rest.Rsh(rest, 64) {
		mag = append(mag, new(big.Int).And(rest, new(big.Int).SetUint64(^uint64(0))).Uint64())
	}
	return mag
}

// bigOf is the number of an Int.
func bigOf(a api.Int) *big.Int {
	n := new(big.Int)
	for _, limb := range slices.Backward(a.Mag) {
		n.Or(n.Lsh(n, 64), new(big.Int).SetUint64(limb))
	}
	if a.Neg {
		n.Neg(n)
	}
	return n
}

// most is the greatest number that is not too long.
func most() *big.Int {
	n := new(big.Int).Lsh(big.NewInt(1), 64*api.MaxLimbs)
	return n.Sub(n, big.NewInt(1))
}

// names are the heads of those Ops that have neither Name nor Params.
func names() map[api.Op]string {
	table := map[api.Op]string{}
	put := func(from api.Op, heads string) {
		for k, head := range strings.Fields(heads) {
			table[from+api.Op(k)] = head
		}
	}
	put(api.OTrue, "true false not and or xor => = distinct ite")
	put(api.OMinus, "- + - * div mod abs <= < >= > select store")
	put(api.OConcat, "concat")
	put(api.OBvNot, "bvnot bvneg bvand bvor bvxor bvnand bvnor bvxnor bvcomp bvadd bvsub bvmul bvudiv bvurem bvsdiv bvsrem bvsmod bvshl bvlshr bvashr repeat zero_extend sign_extend rotate_left rotate_right bvult bvule bvugt bvuge bvslt bvsle bvsgt bvsge")
	table[api.OExtract] = "extract"
	return table
}

// headOf tells a term's Op and fields; an ONum below 0 is told with a minus, so that it is none of OMinus.
func headOf(n api.Node, heads map[api.Op]string) string {
	switch n.Op {
	case api.OFun, api.OCon, api.OSel:
		return n.Name
	case api.OIs:
		return "(_ is " + n.Name + ")"
	case api.ONum:
		return bigOf(n.Int).String()
	case api.OBits:
		return fmt.Sprintf("#b%0*b", n.Bits.Width, bigOf(api.Int{Mag: n.Bits.Val}))
	case api.OConst:
		text, _ := sort.Text(n.Sort)
		return "(as const " + text + ")"
	case api.OExtract:
		return fmt.Sprintf("(_ extract %d %d)", n.Params[0], n.Params[1])
	case api.ORepeat, api.OZeroExt, api.OSignExt, api.ORotL, api.ORotR:
		return fmt.Sprintf("(_ %s %d)", heads[n.Op], n.Params[0])
	}
	return heads[n.Op]
}

// form is a term written out, if it is not too great.
func (w *world) form(i int) string {
	w.Helper()
	if _, nodes, _ := rewrite.Size(w.Table, i); nodes > 20000 {
		return fmt.Sprint("term ", i)
	}
	return w.tree(i).text
}

// tree is a term written out: no two that are not the same have one text.
type tree struct {
	node api.Node // without Args
	args []*tree
	text string
}

func (w *world) tree(i int) *tree {
	w.Helper()
	heads := names()
	done := map[int]*tree{}
	for _, j := range w.Below(i) {
		n, _ := w.Node(j)
		var args []*tree
		for _, arg := range n.Args {
			args = append(args, done[arg])
		}
		done[j] = grow(heads, n, args)
	}
	if done[i] == nil {
		w.Fatalf("no term %d", i)
	}
	return done[i]
}

func grow(heads map[api.Op]string, n api.Node, args []*tree) *tree {
	n.Args = nil
	x := &tree{n, args, headOf(n, heads)}
	if len(args) > 0 {
		var parts []string
		for _, arg := range args {
			parts = append(parts, arg.text)
		}
		x.text = "(" + x.text + " " + strings.Join(parts, " ") + ")"
	}
	return x
}

// cut is a text that is not too long to be told.
func cut(text string) string {
	if len(text) > 600 {
		return text[:600] + ".."
	}
	return text
}

// turns asks that a call answers for one term another one, and for that itself.
func (w *world) turns(what string, call func(b *term.Table, i int) (int, api.Errno), from, to int) {
	w.Helper()
	got, e := call(w.Table, from)
	if e != api.OK || got != to {
		w.Errorf("%s of %s: %s, error %d; want %s", what, cut(w.form(from)), cut(w.form(got)), e, cut(w.form(to)))
		return
	}
	if again, e := call(w.Table, got); e != api.OK || again != got {
		w.Errorf("%s of %s again: %s, error %d", what, cut(w.form(got)), cut(w.form(again)), e)
	}
}

func (w *world) simplifies(from, to int) {
	w.Helper()
	w.turns("Simplify", rewrite.Simplify, from, to)
}

func (w *world) basics(from, to int) {
	w.Helper()
	w.turns("Basic", rewrite.Basic, from, to)
}

// pairs asks something of the two terms of each line `from : to`.
func (w *world) pairs(ask func(from, to int), lines []string) {
	w.Helper()
	for _, line := range lines {
		from, to, ok := strings.Cut(line, " : ")
		if !ok {
			w.Fatalf("no line: %s", line)
		}
		ask(w.read(from), w.read(to))
	}
}

// simplify is simplifies of lines.
func (w *world) simplify(lines ...string) {
	w.Helper()
	w.pairs(w.simplifies, lines)
}

// basic is basics of lines.
func (w *world) basic(lines ...string) {
	w.Helper()
	w.pairs(w.basics, lines)
}

// dice are numbers that look like any, the same ones each time.
type dice struct{ state uint64 }

func (d *dice) roll() uint64 {
	d.state += 0x9e3779b97f4a7c15
	z := d.state
	z = (z ^ z>>30) * 0xbf58476d1ce4e5b9
	z = (z ^ z>>27) * 0x94d049bb133111eb
	return z ^ z>>31
}

func (d *dice) below(n int) int { return int(d.roll() % uint64(n)) }

func pick[T any](d *dice, list []T) T { return list[d.below(len(list))] }
