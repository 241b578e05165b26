package term_test

import (
	"reflect"
	"slices"
	"strings"
	"testing"

	"tribunal/api"
	"tribunal/term"
	"tribunal/whole"
)

var (
	boolean = api.Sort{Kind: api.KBool}
	integer = api.Sort{Kind: api.KInt}
)

func data(name string) api.Sort { return api.Sort{Kind: api.KData, Name: name} }

func user(name string) api.Sort { return api.Sort{Kind: api.KUser, Name: name} }

func wide(n int) api.Sort { return api.Sort{Kind: api.KBits, Width: n} }

func array(from, to api.Sort) api.Sort { return api.Sort{Kind: api.KArray, Args: []api.Sort{from, to}} }

func fun(name string, ret api.Sort, args ...api.Sort) api.Fun {
	return api.Fun{Name: name, Args: args, Ret: ret}
}

// some is a signature with constants of many sorts, and functions and datatypes.
func some() api.Sig {
	return api.Sig{
		Users: []string{"U", "my sort", "Bool"},
		Datas: []api.Datatype{
			{Name: "List", Cons: []api.Con{{Name: "nil"}, {Name: "cons", Sels: []api.Sel{{Name: "head", Sort: integer}, {Name: "tail", Sort: data("List")}}}}},
			{Name: "Color", Cons: []api.Con{{Name: "red"}, {Name: "light green"}}},
			{Name: "Box", Cons: []api.Con{{Name: "box", Sels: []api.Sel{{Name: "the lid", Sort: array(integer, wide(4))}, {Name: "hue", Sort: data("Color")}}}}},
		},
		Funs: []api.Fun{
			fun("x", integer), fun("y", integer), fun("p", boolean), fun("q", boolean),
			fun("u", user("U")), fun("m", user("my sort")), fun("fake", user("Bool")), fun("l", data("List")), fun("c", data("Color")), fun("b", data("Box")),
			fun("b1", wide(1)), fun("b4", wide(4)), fun("d4", wide(4)), fun("b8", wide(8)), fun("b2048", wide(2048)), fun("b4095", wide(4095)), fun("b4096", wide(4096)),
			fun("a", array(integer, integer)), fun("aa", array(integer, array(wide(4), boolean))), fun("ab", array(integer, wide(4))), fun("af", array(user("Bool"), user("Bool"))),
			fun("f", integer, integer), fun("g", data("Color"), integer, boolean, array(integer, integer)), fun("is so", boolean, user("U"), user("U")), fun("and", wide(4), wide(8)),
		},
	}
}

func tableOf(t *testing.T, g api.Sig) *term.Table {
	t.Helper()
	b, e := term.New(g)
	if b == nil || e != api.OK {
		t.Fatalf("New: error %d", e)
	}
	return b
}

// put adds a term that may be.
func put(t *testing.T, b *term.Table, n api.Node) int {
	t.Helper()
	i, e := b.Add(n)
	if e != api.OK {
		t.Fatalf("Add(%s): error %d", brief(n), e)
	}
	return i
}

// app is a term that an Op makes of terms.
func app(t *testing.T, b *term.Table, op api.Op, args ...int) int {
	t.Helper()
	return put(t, b, api.Node{Op: op, Args: args})
}

// named is an application of what is declared, or asks for a constructor.
func named(t *testing.T, b *term.Table, op api.Op, name string, args ...int) int {
	t.Helper()
	return put(t, b, api.Node{Op: op, Name: name, Args: args})
}

// constant is a function without arguments.
func constant(t *testing.T, b *term.Table, name string) int {
	t.Helper()
	return named(t, b, api.OFun, name)
}

func number(t *testing.T, b *term.Table, n int64) int {
	t.Helper()
	return put(t, b, api.Node{Op: api.ONum, Int: whole.Of(n)})
}

func vector(t *testing.T, b *term.Table, width int, val ...uint64) int {
	t.Helper()
	return put(t, b, api.Node{Op: api.OBits, Bits: api.Bits{Width: width, Val: val}})
}

// params is an Op with Params.
func params(t *testing.T, b *term.Table, op api.Op, arg int, list ...int) int {
	t.Helper()
	return put(t, b, api.Node{Op: op, Params: list, Args: []int{arg}})
}

// everywhere is an OConst.
func everywhere(t *testing.T, b *term.Table, s api.Sort, arg int) int {
	t.Helper()
	return put(t, b, api.Node{Op: api.OConst, Sort: s, Args: []int{arg}})
}

// refuses asks for an error, and that nothing is changed by it.
func refuses(t *testing.T, b *term.Table, n api.Node, want api.Errno) {
	t.Helper()
	before := b.Len()
	i, e := b.Add(n)
	if i != 0 || e != want {
		t.Errorf("Add(%s): %d, error %d; want error %d", brief(n), i, e, want)
	}
	if b.Len() != before {
		t.Errorf("Add(%s): %d terms, %d ahead of it", brief(n), b.Len(), before)
	}
}

// isTerm asks of a term's sort and text.
func isTerm(t *testing.T, b *term.Table, i int, s api.Sort, text string) {
	t.Helper()
	if got, ok := b.Sort(i); !ok || !reflect.DeepEqual(got, s) {
		t.Errorf("Sort(%d): %+v, %v; want %+v", i, got, ok, s)
	}
	if got, e := b.Text(i); got != text || e != api.OK {
		t.Errorf("Text(%d): %.300q, error %d; want %.300q", i, got, e, text)
	}
}

// isNode asks what a term is, field by field.
func isNode(t *testing.T, b *term.Table, i int, want api.Node) {
	t.Helper()
	if got, ok := b.Node(i); !ok || !reflect.DeepEqual(got, want) {
		t.Errorf("Node(%d): %+v, %v; want %+v", i, got, ok, want)
	}
}

// brief leaves long lists out.
func brief(n api.Node) string {
	n.Args, n.Params = n.Args[:min(len(n.Args), 5)], n.Params[:min(len(n.Params), 5)]
	n.Int.Mag, n.Bits.Val = n.Int.Mag[:min(len(n.Int.Mag), 5)], n.Bits.Val[:min(len(n.Bits.Val), 5)]
	text := strings.Builder{}
	write(&text, n)
	return text.String()
}

// times is a list of one number, so many times.
func times(n, many int) []int { return slices.Repeat([]int{n}, many) }

// dice are numbers that look like any, the same ones each time.
type dice struct{ state uint64 }

func (d *dice) roll() uint64 {
	d.state += 0x9e3779b97f4a7c15
	z := d.state
	z = (z ^ z>>30) * 0xbf58476d1ce4e5b9
	z = (z ^ z>>27) * 0x94d049bb133111eb
	return z ^ z>>31
}

func (d *dice) below(n int) int { return int(d.roll() % uint64(n)) }

func pick[T any](d *dice, list []T) T { return list[d.below(len(list))] }
