package eval_test

import (
	"fmt"
	"math/big"
	"reflect"
	"slices"
	"strings"
	"testing"

	"tribunal/api"
	"tribunal/eval"
	"tribunal/sort"
	"tribunal/term"
	"tribunal/value"
)

var (
	boolean = api.Sort{Kind: api.KBool}
	integer = api.Sort{Kind: api.KInt}
)

func data(name string) api.Sort { return api.Sort{Kind: api.KData, Name: name} }

func user(name string) api.Sort { return api.Sort{Kind: api.KUser, Name: name} }

func wide(n int) api.Sort { return api.Sort{Kind: api.KBits, Width: n} }

func array(from, to api.Sort) api.Sort { return api.Sort{Kind: api.KArray, Args: []api.Sort{from, to}} }

func sel(name string, s api.Sort) api.Sel { return api.Sel{Name: name, Sort: s} }

func con(name string, sels ...api.Sel) api.Con { return api.Con{Name: name, Sels: sels} }

func datatype(name string, cons ...api.Con) api.Datatype { return api.Datatype{Name: name, Cons: cons} }

func fun(name string, ret api.Sort, args ...api.Sort) api.Fun {
	return api.Fun{Name: name, Args: args, Ret: ret}
}

// some is a signature with functions over all kinds of sorts. The user sort Bool is written as another sort is.
func some() api.Sig {
	return api.Sig{
		Users: []string{"U", "Bool"},
		Datas: []api.Datatype{
			datatype("List", con("nil"), con("cons", sel("head", integer), sel("tail", data("List")))),
			datatype("Color", con("red"), con("light green"), con("blue")),
			datatype("Pair", con("pair", sel("first", data("Color")), sel("second", boolean))),
			datatype("Shape", con("dot"), con("round", sel("radius", integer), sel("hue", data("Color"))), con("box", sel("lid", array(boolean, integer)), sel("inside", data("Shape")))),
			datatype("Unit", con("unit")),
		},
		Funs: []api.Fun{
			fun("x", integer), fun("y", integer), fun("p", boolean), fun("q", boolean), fun("u", user("U")), fun("v", user("U")), fun("fake", user("Bool")),
			fun("l", data("List")), fun("c", data("Color")), fun("pr", data("Pair")), fun("s", data("Shape")), fun("unit of", data("Unit")),
			fun("b1", wide(1)), fun("b3", wide(3)), fun("d3", wide(3)), fun("b65", wide(65)),
			fun("a", array(integer, integer)), fun("ab", array(boolean, integer)), fun("abb", array(boolean, boolean)), fun("a2", array(wide(2), data("Color"))),
			fun("aa", array(data("Color"), array(boolean, boolean))), fun("af", array(user("Bool"), user("U"))), fun("a3", array(wide(3), wide(1))), fun("au", array(data("Unit"), integer)),
			fun("ai", array(array(integer, boolean), integer)), fun("as", array(data("Shape"), wide(3))), fun("i", array(integer, boolean)),
			fun("f", integer, integer), fun("g", data("Pair"), data("Color"), array(boolean, integer)), fun("h", boolean, integer, data("List")),
			fun("is so", boolean, user("U"), user("Bool")), fun("turn", wide(3), wide(3)), fun("pick", array(boolean, boolean), data("Shape")),
		},
	}
}

func datas(list ...api.Datatype) api.Sig { return api.Sig{Datas: list} }

func yes(is bool) api.Value { return api.Value{Kind: api.VBool, Bool: is} }

func num(n int64) api.Value { return great(big.NewInt(n)) }

// great is a whole number in canonical form.
func great(n *big.Int) api.Value {
	return api.Value{Kind: api.VInt, Int: api.Int{Neg: n.Sign() < 0, Mag: limbsOf(n)}}
}

func limbsOf(n *big.Int) api.Nat {
	var mag api.Nat
	for rest := new(big.Int).Abs(n); rest.Sign() > 0; rest.Rsh(rest, 64) {
		mag = append(mag, new(big.Int).And(rest, new(big.Int).SetUint64(^uint64(0))).Uint64())
	}
	return mag
}

// bigOf is the number of limbs.
func bigOf(neg bool, mag api.Nat) *big.Int {
	n := new(big.Int)
	for _, limb := range slices.Backward(mag) {
		n.Or(n.Lsh(n, 64), new(big.Int).SetUint64(limb))
	}
	if neg {
		n.Neg(n)
	}
	return n
}

// pow is 2 to the n.
func pow(n int) *big.Int { return new(big.Int).Lsh(big.NewInt(1), uint(n)) }

func vec(width int, limbs ...uint64) api.Value {
	return api.Value{Kind: api.VBits, Bits: api.Bits{Width: width, Val: limbs}}
}

// key is a vector without zeros on top.
func key(width int, n int64) api.Value { return vec(width, limbsOf(big.NewInt(n))...) }

// bin is the vector of binary digits.
func bin(digits string) api.Value {
	n, _ := new(big.Int).SetString(digits, 2)
	return vec(len(digits), limbsOf(n)...)
}

func tree(name string, args ...api.Value) api.Value {
	return api.Value{Kind: api.VTree, Name: name, Args: args}
}

func elem(name string, index int) api.Value {
	return api.Value{Kind: api.VElem, Name: name, Index: index}
}

func arr(s api.Sort, other api.Value, rows ...api.Row) api.Value {
	return api.Value{Kind: api.VArray, Sort: s, Else: []api.Value{other}, Rows: rows}
}

func row(key, val api.Value) api.Row { return api.Row{Key: key, Val: val} }

// list is a List of numbers.
func list(nums ...int64) api.Value {
	l := tree("nil")
	for _, n := range slices.Backward(nums) {
		l = tree("cons", num(n), l)
	}
	return l
}

// parts is how many parts a value has.
func parts(v api.Value) int {
	n := 1
	for _, l := range [][]api.Value{v.Args, v.Else} {
		for _, x := range l {
			n += parts(x)
		}
	}
	for _, r := range v.Rows {
		n += parts(r.Key) + parts(r.Val)
	}
	return n
}

func funs(list ...api.FunVal) api.Interp { return api.Interp{Funs: list} }

func funval(name string, other api.Value, cases ...api.Case) api.FunVal {
	return api.FunVal{Name: name, Cases: cases, Else: other}
}

func kase(val api.Value, args ...api.Value) api.Case { return api.Case{Args: args, Val: val} }

// alike tells whether values are the same field by field, nil lists being empty ones.
func alike(a, b api.Value) bool { return reflect.DeepEqual(bared(a), bared(b)) }

// bared has nil in the place of empty lists.
func bared(v api.Value) api.Value {
	v.Int.Mag, v.Bits.Val = append(api.Nat(nil), v.Int.Mag...), append(api.Nat(nil), v.Bits.Val...)
	v.Sort = baredSort(v.Sort)
	v.Args, v.Else, v.Rows = append([]api.Value(nil), v.Args...), append([]api.Value(nil), v.Else...), append([]api.Row(nil), v.Rows...)
	for i := range v.Args {
		v.Args[i] = bared(v.Args[i])
	}
	for i := range v.Else {
		v.Else[i] = bared(v.Else[i])
	}
	for i, r := range v.Rows {
		v.Rows[i] = row(bared(r.Key), bared(r.Val))
	}
	return v
}

func baredSort(s api.Sort) api.Sort {
	s.Args = append([]api.Sort(nil), s.Args...)
	for i := range s.Args {
		s.Args[i] = baredSort(s.Args[i])
	}
	return s
}

func tableOf(t *testing.T, g api.Sig) *term.Table {
	t.Helper()
	b, e := term.New(g)
	if b == nil || e != api.OK {
		t.Fatalf("New: error %d", e)
	}
	return b
}

// put adds a term that may be.
func put(t *testing.T, b *term.Table, n api.Node) int {
	t.Helper()
	i, e := b.Add(n)
	if e != api.OK {
		t.Fatalf("Add of Op %d, %q, Params %v, Args %v: error %d", n.Op, n.Name, n.Params, n.Args, e)
	}
	return i
}

// app is a term that an Op makes of terms.
func app(t *testing.T, b *term.Table, op api.Op, args ...int) int {
	t.Helper()
	return put(t, b, api.Node{Op: op, Args: args})
}

// named is an application of what is declared, or asks for a constructor.
func named(t *testing.T, b *term.Table, op api.Op, name string, args ...int) int {
	t.Helper()
	return put(t, b, api.Node{Op: op, Name: name, Args: args})
}

// call is an application of a function.
func call(t *testing.T, b *term.Table, name string, args ...int) int {
	t.Helper()
	return named(t, b, api.OFun, name, args...)
}

// numeral is an ONum.
func numeral(t *testing.T, b *term.Table, n *big.Int) int {
	t.Helper()
	return put(t, b, api.Node{Op: api.ONum, Int: great(n).Int})
}

// termOf is a term without functions that is the value; its sort is wanted for arrays.
func termOf(t *testing.T, b *term.Table, v api.Value) int {
	t.Helper()
	switch v.Kind {
	case api.VBool:
		if v.Bool {
			return app(t, b, api.OTrue)
		}
		return app(t, b, api.OFalse)
	case api.VInt:
		return put(t, b, api.Node{Op: api.ONum, Int: v.Int})
	case api.VBits:
		return put(t, b, api.Node{Op: api.OBits, Bits: v.Bits})
	case api.VTree:
		var args []int
		for _, x := range v.Args {
			args = append(args, termOf(t, b, x))
		}
		return named(t, b, api.OCon, v.Name, args...)
	case api.VArray:
		i := put(t, b, api.Node{Op: api.OConst, Sort: v.Sort, Args: []int{termOf(t, b, v.Else[0])}})
		for _, r := range v.Rows {
			i = app(t, b, api.OStore, i, termOf(t, b, r.Key), termOf(t, b, r.Val))
		}
		return i
	}
	t.Fatal("no term of an element")
	return 0
}

// text is a value as it is written.
func text(v api.Value, s api.Sort, g api.Sig) string {
	out, e := value.Text(v, s, g)
	if e != api.OK {
		return fmt.Sprintf("%s (Text: error %d)", show(v), e)
	}
	return out
}

func name(s api.Sort) string {
	out, e := sort.Text(s)
	if e != api.OK {
		return fmt.Sprint("a sort with the error ", e)
	}
	return out
}

// written is a term as it is written.
func written(b *term.Table, i int) string {
	out, e := b.Text(i)
	if e != api.OK {
		return fmt.Sprintf("term %d", i)
	}
	return fmt.Sprintf("%.300s", out)
}

// is asks what a term is, field by field.
func is(t *testing.T, b *term.Table, in api.Interp, i int, want api.Value) {
	t.Helper()
	got, e := eval.Terms(b, in, i)
	if e != api.OK || len(got) != 1 || !alike(got[0], want) {
		t.Errorf("%s: %.300s, error %d; want %.300s", written(b, i), showAll(got), e, show(want))
	}
	if want.Kind == api.VBool {
		if holds, e := eval.Holds(b, in, i); holds != want.Bool || e != api.OK {
			t.Errorf("Holds of %s: %v, error %d; want %v", written(b, i), holds, e, want.Bool)
		}
	}
}

// fails asks of Terms and of Holds for an error, beside which there is nothing.
func fails(t *testing.T, b *term.Table, in api.Interp, want api.Errno, roots ...int) {
	t.Helper()
	if got, e := eval.Terms(b, in, roots...); e != want || len(got) != 0 {
		t.Errorf("Terms of %v: %.300s, error %d; want error %d", roots, showAll(got), e, want)
	}
	if got, e := eval.Holds(b, in, roots...); e != want || got {
		t.Errorf("Holds of %v: %v, error %d; want error %d", roots, got, e, want)
	}
}

// isAt asks what a function is at arguments, field by field.
func isAt(t *testing.T, g api.Sig, in api.Interp, want api.Value, name string, args ...api.Value) {
	t.Helper()
	got, e := eval.Func(g, in, name, args...)
	if e != api.OK || !alike(got, want) {
		t.Errorf("Func of %s at %.300s: %.300s, error %d; want %.300s", name, showAll(args), show(got), e, show(want))
	}
}

// failsAt asks of Func for an error, beside which there is nothing.
func failsAt(t *testing.T, g api.Sig, in api.Interp, want api.Errno, name string, args ...api.Value) {
	t.Helper()
	if got, e := eval.Func(g, in, name, args...); e != want || !alike(got, api.Value{}) {
		t.Errorf("Func of %q at %.300s: %.300s, error %d; want error %d", name, showAll(args), show(got), e, want)
	}
}

func showAll(list []api.Value) string {
	var texts []string
	for _, v := range list {
		texts = append(texts, show(v))
	}
	return strings.Join(texts, ", ")
}

// show writes a value as it stands.
func show(v api.Value) string {
	var out strings.Builder
	var write func(v api.Value)
	write = func(v api.Value) {
		if out.Len() > 400 {
			return
		}
		fmt.Fprint(&out, "{", v.Kind)
		switch v.Kind {
		case api.VBool:
			fmt.Fprint(&out, " ", v.Bool)
		case api.VInt:
			fmt.Fprint(&out, " ", v.Int.Neg, v.Int.Mag[:min(len(v.Int.Mag), 9)])
		case api.VBits:
			fmt.Fprint(&out, " ", v.Bits.Width, v.Bits.Val[:min(len(v.Bits.Val), 9)])
		case api.VTree, api.VElem:
			fmt.Fprintf(&out, " %s %d", v.Name, v.Index)
		}
		for _, x := range v.Args {
			out.WriteByte(' ')
			write(x)
		}
		for _, x := range v.Else {
			out.WriteString(" else ")
			write(x)
		}
		for _, r := range v.Rows {
			out.WriteByte(' ')
			write(r.Key)
			out.WriteString(" to ")
			write(r.Val)
		}
		out.WriteByte('}')
	}
	write(v)
	return out.String()
}

// dice are numbers that look like any, the same ones each time.
type dice struct{ state uint64 }

func (d *dice) roll() uint64 {
	d.state += 0x9e3779b97f4a7c15
	z := d.state
	z = (z ^ z>>30) * 0xbf58476d1ce4e5b9
	z = (z ^ z>>27) * 0x94d049bb133111eb
	return z ^ z>>31
}

func (d *dice) below(n int) int { return int(d.roll() % uint64(n)) }

func pick[T any](d *dice, list []T) T { return list[d.below(len(list))] }

func mixed[T any](d *dice, list []T) []T {
	list = slices.Clone(list)
	for i := range list {
		j := d.below(i + 1)
		list[i], list[j] = list[j], list[i]
	}
	return list
}
