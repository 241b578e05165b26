package value_test

import (
	"fmt"
	"math/big"
	"reflect"
	"slices"
	"strings"
	"testing"

	"tribunal/api"
	"tribunal/sort"
	"tribunal/value"
)

var (
	boolean = api.Sort{Kind: api.KBool}
	integer = api.Sort{Kind: api.KInt}
)

func data(name string) api.Sort { return api.Sort{Kind: api.KData, Name: name} }

func user(name string) api.Sort { return api.Sort{Kind: api.KUser, Name: name} }

func wide(n int) api.Sort { return api.Sort{Kind: api.KBits, Width: n} }

func array(from, to api.Sort) api.Sort { return api.Sort{Kind: api.KArray, Args: []api.Sort{from, to}} }

// con has selectors of those sorts, named behind it.
func con(name string, sorts ...api.Sort) api.Con {
	c := api.Con{Name: name}
	for i, s := range sorts {
		c.Sels = append(c.Sels, api.Sel{Name: fmt.Sprint(name, "_", i), Sort: s})
	}
	return c
}

func datatype(name string, cons ...api.Con) api.Datatype { return api.Datatype{Name: name, Cons: cons} }

// some is a signature with all kinds of datatypes: finite ones, endless ones, and those with one value.
func some() api.Sig {
	return api.Sig{
		Users: []string{"U", "my sort", "Bool"},
		Datas: []api.Datatype{
			datatype("List", con("cons", integer, data("List")), con("nil")),
			datatype("Color", con("red"), con("green")),
			datatype("Three", con("z"), con("light a"), con("a")),
			datatype("Pair", con("pair", data("Color"), boolean)),
			datatype("Unit", con("unit")),
			datatype("Tree", con("node", data("Forest")), con("leaf", user("U"))),
			datatype("Forest", con("some", data("Tree"), data("Forest")), con("none")),
			datatype("Box", con("box", array(integer, data("Pair")), boolean)),
			datatype("Still", con("still", array(data("List"), data("Unit")), data("Unit"))),
			datatype("Mixed", con("m1", wide(1)), con("m0"), con("m2", boolean, array(boolean, boolean))),
		},
		Funs: []api.Fun{{Name: "f", Args: []api.Sort{integer}, Ret: boolean}},
	}
}

func datas(list ...api.Datatype) api.Sig { return api.Sig{Datas: list} }

func yes(is bool) api.Value { return api.Value{Kind: api.VBool, Bool: is} }

func num(n int64) api.Value { return great(big.NewInt(n)) }

// great is a whole number in canonical form.
func great(n *big.Int) api.Value {
	return api.Value{Kind: api.VInt, Int: api.Int{Neg: n.Sign() < 0, Mag: limbsOf(n)}}
}

func limbsOf(n *big.Int) api.Nat {
	var mag api.Nat
	for rest := new(big.Int).Abs(n); rest.Sign() > 0; rest.Rsh(rest, 64) {
		mag = append(mag, new(big.Int).And(rest, new(big.Int).SetUint64(^uint64(0))).Uint64())
	}
	return mag
}

// bigOf is the number of limbs.
func bigOf(neg bool, mag api.Nat) *big.Int {
	n := new(big.Int)
	for _, limb := range slices.Backward(mag) {
		n.Or(n.Lsh(n, 64), new(big.Int).SetUint64(limb))
	}
	if neg {
		n.Neg(n)
	}
	return n
}

func vec(width int, limbs ...uint64) api.Value {
	return api.Value{Kind: api.VBits, Bits: api.Bits{Width: width, Val: limbs}}
}

func tree(name string, args ...api.Value) api.Value {
	return api.Value{Kind: api.VTree, Name: name, Args: args}
}

func elem(name string, index int) api.Value {
	return api.Value{Kind: api.VElem, Name: name, Index: index}
}

func arr(s api.Sort, other api.Value, rows ...api.Row) api.Value {
	return api.Value{Kind: api.VArray, Sort: s, Else: []api.Value{other}, Rows: rows}
}

func row(key, val api.Value) api.Row { return api.Row{Key: key, Val: val} }

// list is a List of numbers.
func list(nums ...int64) api.Value {
	l := tree("nil")
	for _, n := range slices.Backward(nums) {
		l = tree("cons", num(n), l)
	}
	return l
}

// parts is how many parts a value has.
func parts(v api.Value) int {
	n := 1
	for _, l := range [][]api.Value{v.Args, v.Else} {
		for _, x := range l {
			n += parts(x)
		}
	}
	for _, r := range v.Rows {
		n += parts(r.Key) + parts(r.Val)
	}
	return n
}

// isNorm asks for a normal form, field by field, and that it is its own.
func isNorm(t *testing.T, v api.Value, s api.Sort, g api.Sig, want api.Value) {
	t.Helper()
	for _, x := range []api.Value{v, want} {
		if got, e := value.Norm(x, s, g); e != api.OK || !alike(got, want) {
			t.Errorf("Norm(%.300s): %.300s, error %d; want %.300s", show(x), show(got), e, show(want))
		}
	}
	if same, e := value.Same(v, want, s, g); !same || e != api.OK {
		t.Errorf("%.300s is not the same as its normal form: error %d", show(v), e)
	}
}

// alike tells whether values are the same field by field, nil lists being empty ones.
func alike(a, b api.Value) bool { return reflect.DeepEqual(bared(a), bared(b)) }

// bared has nil in the place of empty lists.
func bared(v api.Value) api.Value {
	v.Int.Mag, v.Bits.Val = append(api.Nat(nil), v.Int.Mag...), append(api.Nat(nil), v.Bits.Val...)
	v.Sort = baredSort(v.Sort)
	v.Args, v.Else, v.Rows = append([]api.Value(nil), v.Args...), append([]api.Value(nil), v.Else...), append([]api.Row(nil), v.Rows...)
	for i := range v.Args {
		v.Args[i] = bared(v.Args[i])
	}
	for i := range v.Else {
		v.Else[i] = bared(v.Else[i])
	}
	for i, r := range v.Rows {
		v.Rows[i] = row(bared(r.Key), bared(r.Val))
	}
	return v
}

func baredSort(s api.Sort) api.Sort {
	s.Args = append([]api.Sort(nil), s.Args...)
	for i := range s.Args {
		s.Args[i] = baredSort(s.Args[i])
	}
	return s
}

// isText asks for a text.
func isText(t *testing.T, v api.Value, s api.Sort, want string) {
	t.Helper()
	if got, e := value.Text(v, s, some()); e != api.OK || got != want {
		t.Errorf("Text(%.300s): %.300s, error %d; want %.300s", show(v), got, e, want)
	}
}

// refuses asks of all calls that take a value of a sort for an error, beside which there is nothing.
func refuses(t *testing.T, what string, v api.Value, s api.Sort, g api.Sig, want api.Errno) {
	t.Helper()
	if e := value.Check(v, s, g); e != want {
		t.Errorf("Check of %s: error %d; want %d", what, e, want)
	}
	noForm(t, what, v, s, g, want)
}

// noForm is refuses, of the calls that make normal forms.
func noForm(t *testing.T, what string, v api.Value, s api.Sort, g api.Sig, want api.Errno) {
	t.Helper()
	if got, e := value.Norm(v, s, g); e != want || !alike(got, api.Value{}) {
		t.Errorf("Norm of %s: %.300s, error %d; want error %d", what, show(got), e, want)
	}
	if got, e := value.Text(v, s, g); e != want || got != "" {
		t.Errorf("Text of %s: %.300s, error %d; want error %d", what, got, e, want)
	}
	if same, e := value.Same(v, v, s, g); e != want || same {
		t.Errorf("Same of %s: %v, error %d; want error %d", what, same, e, want)
	}
	if s.Kind == api.KArray {
		first, e := value.Default(s, g)
		if e != api.OK {
			return
		}
		if same, e := value.Same(first, v, s, g); e != want || same {
			t.Errorf("Same of the first value and %s: %v, error %d; want error %d", what, same, e, want)
		}
	}
}

// isDefault asks for the first value of a sort.
func isDefault(t *testing.T, s api.Sort, g api.Sig, want api.Value) {
	t.Helper()
	got, e := value.Default(s, g)
	if e != api.OK || !alike(got, want) {
		t.Errorf("Default(%s): %.300s, error %d; want %.300s", name(s), show(got), e, show(want))
	}
	if e := value.Check(got, s, g); e != api.OK {
		t.Errorf("Default(%s) is no value of it: error %d", name(s), e)
	}
}

// hasAll asks for all values of a sort, at the most that they are, above, and below.
func hasAll(t *testing.T, s api.Sort, g api.Sig, want ...api.Value) {
	t.Helper()
	for _, most := range []int{len(want), len(want) + 1, 2 * len(want), 1 << 40, int(^uint(0) >> 1)} {
		got, ok := value.All(s, g, most)
		if !ok || !slices.EqualFunc(got, want, alike) {
			t.Errorf("All(%s, most %d): %d values, %v; want %d", name(s), most, len(got), ok, len(want))
		}
	}
	for _, most := range []int{len(want) - 1, 0, -1, -int(^uint(0)>>1) - 1} {
		notAll(t, s, g, most)
	}
}

func notAll(t *testing.T, s api.Sort, g api.Sig, most int) {
	t.Helper()
	if got, ok := value.All(s, g, most); ok || len(got) != 0 {
		t.Errorf("All(%s, most %d): %d values, %v", name(s), most, len(got), ok)
	}
}

func name(s api.Sort) string {
	text, e := sort.Text(s)
	if e != api.OK {
		return fmt.Sprint("a sort with the error ", e)
	}
	return text
}

// show writes a value as it stands.
func show(v api.Value) string {
	var out strings.Builder
	var write func(v api.Value)
	write = func(v api.Value) {
		if out.Len() > 400 {
			return
		}
		fmt.Fprint(&out, "{", v.Kind)
		switch v.Kind {
		case api.VBool:
			fmt.Fprint(&out, " ", v.Bool)
		case api.VInt:
			fmt.Fprint(&out, " ", v.Int.Neg, v.Int.Mag[:min(len(v.Int.Mag), 9)])
		case api.VBits:
			fmt.Fprint(&out, " ", v.Bits.Width, v.Bits.Val[:min(len(v.Bits.Val), 9)])
		case api.VTree, api.VElem:
			fmt.Fprintf(&out, " %s %d", v.Name, v.Index)
		}
		for _, x := range v.Args {
			out.WriteByte(' ')
			write(x)
		}
		for _, x := range v.Else {
			out.WriteString(" else ")
			write(x)
		}
		for _, r := range v.Rows {
			out.WriteByte(' ')
			write(r.Key)
			out.WriteString(" to ")
			write(r.Val)
		}
		out.WriteByte('}')
	}
	write(v)
	return out.String()
}

// dice are numbers that look like any, the same ones each time.
type dice struct{ state uint64 }

func (d *dice) roll() uint64 {
	d.state += 0x9e3779b97f4a7c15
	z := d.state
	z = (z ^ z>>30) * 0xbf58476d1ce4e5b9
	z = (z ^ z>>27) * 0x94d049bb133111eb
	return z ^ z>>31
}

func (d *dice) below(n int) int { return int(d.roll() % uint64(n)) }

func pick[T any](d *dice, list []T) T { return list[d.below(len(list))] }

func mixed[T any](d *dice, list []T) []T {
	list = slices.Clone(list)
	for i := range list {
		j := d.below(i + 1)
		list[i], list[j] = list[j], list[i]
	}
	return list
}
