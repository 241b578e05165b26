package value_test

import (
	"math"
	"math/big"
	"strings"
	"testing"

	"tribunal/api"
	"tribunal/value"
)

// P10.4: how values of each sort are written; what is written is the normal form.
func TestTexts(t *testing.T) {
	ints, byBits := array(integer, integer), array(wide(3), user("my sort"))
	nested := array(ints, array(boolean, integer))
	for _, x := range []struct {
		v    api.Value
		s    api.Sort
		want string
	}{
		{yes(true), boolean, "true"}, {yes(false), boolean, "false"},
		{num(0), integer, "0"}, {num(7), integer, "7"}, {num(-5), integer, "(- 5)"}, {num(math.MinInt64), integer, "(- 9223372036854775808)"}, {great(new(big.Int).Exp(big.NewInt(10), big.NewInt(40), nil)), integer, "1" + strings.Repeat("0", 40)},
		{api.Value{Kind: api.VInt, Int: api.Int{Neg: true, Mag: api.Nat{0}}}, integer, "0"}, {api.Value{Kind: api.VInt, Int: api.Int{Neg: true, Mag: api.Nat{5, 0}}}, integer, "(- 5)"},
		{vec(1), wide(1), "#b0"}, {vec(4, 5), wide(4), "#b0101"}, {vec(4, 15, 0), wide(4), "#b1111"}, {vec(8, 5), wide(8), "#b00000101"}, {vec(65, 1, 1), wide(65), "#b1" + strings.Repeat("0", 63) + "1"}, {vec(4096), wide(4096), "#b" + strings.Repeat("0", 4096)},
		{elem("U", 0), user("U"), "(as @0 U)"}, {elem("U", 5), user("U"), "(as @5 U)"}, {elem("my sort", 12), user("my sort"), "(as @12 |my sort|)"}, {elem("U", math.MaxInt64), user("U"), "(as @9223372036854775807 U)"}, {elem("Bool", 1), user("Bool"), "(as @1 Bool)"},
		{tree("red"), data("Color"), "red"}, {tree("light a"), data("Three"), "|light a|"}, {list(), data("List"), "nil"}, {list(1), data("List"), "(cons 1 nil)"}, {list(1, -2), data("List"), "(cons 1 (cons (- 2) nil))"}, {tree("pair", tree("green"), yes(true)), data("Pair"), "(pair green true)"},
		{arr(ints, num(0)), ints, "((as const (Array Int Int)) 0)"}, {arr(ints, num(0), row(num(3), num(4))), ints, "(store ((as const (Array Int Int)) 0) 3 4)"},
		{arr(ints, num(-1), row(num(3), num(4)), row(num(-3), num(-4)), row(num(0), num(0))), ints, "(store (store (store ((as const (Array Int Int)) (- 1)) (- 3) (- 4)) 0 0) 3 4)"}, {arr(ints, num(0), row(num(3), num(4)), row(num(3), num(0))), ints, "((as const (Array Int Int)) 0)"},
		{arr(byBits, elem("my sort", 0), row(vec(3, 1), elem("my sort", 2))), byBits, "(store ((as const (Array (_ BitVec 3) |my sort|)) (as @0 |my sort|)) #b001 (as @2 |my sort|))"},
		{arr(nested, arr(nested.Args[1], num(7), row(yes(true), num(2))), row(arr(ints, num(1), row(num(2), num(3))), arr(nested.Args[1], num(0)))), nested,
			"(store ((as const (Array (Array Int Int) (Array Bool Int))) (store ((as const (Array Bool Int)) 2) false 7)) (store ((as const (Array Int Int)) 1) 2 3) ((as const (Array Bool Int)) 0))"},
		{tree("box", arr(array(integer, data("Pair")), tree("pair", tree("red"), yes(false))), yes(true)), data("Box"), "(box ((as const (Array Int Pair)) (pair red false)) true)"},
	} {
		isText(t, x.v, x.s, x.want)
	}
	g := api.Sig{Users: []string{"5"}, Datas: []api.Datatype{datatype("let", con("a b", boolean), con("as"), con("true"))}}
	for _, x := range []struct {
		v    api.Value
		s    api.Sort
		want string
	}{
		{tree("a b", yes(true)), data("let"), "(|a b| true)"}, {tree("as"), data("let"), "|as|"}, {tree("true"), data("let"), "true"}, {elem("5", 5), user("5"), "(as @5 |5|)"},
		{arr(array(user("5"), data("let")), tree("as"), row(elem("5", 0), tree("true"))), array(user("5"), data("let")), "(store ((as const (Array |5| |let|)) |as|) (as @0 |5|) true)"},
	} {
		if got, e := value.Text(x.v, x.s, g); e != api.OK || got != x.want {
			t.Errorf("Text(%s): %s, error %d; want %s", show(x.v), got, e, x.want)
		}
	}
}

// ofDigits is a number of so many digits, and its text.
func ofDigits(n int) (api.Value, string) {
	return great(new(big.Int).Exp(big.NewInt(10), big.NewInt(int64(n-1)), nil)), "1" + strings.Repeat("0", n-1)
}

// P10.4: MaxText bytes and one more.
func TestLongTexts(t *testing.T) {
	sorts := make([]api.Sort, 64)
	for i := range sorts {
		sorts[i] = integer
	}
	g := datas(datatype("T", con("t", sorts...)), datatype("Box", con("box", data("T"))))
	const each = 16500
	v, long := ofDigits(each)
	for more := -1; more <= 1; more++ {
		last, digits := ofDigits(api.MaxText - 63*(each+1) - len("(t )") + more)
		args := make([]api.Value, 64)
		for i := range args {
			args[i] = v
		}
		args[63] = last
		got, e := value.Text(tree("t", args...), data("T"), g)
		want := "(t " + strings.Repeat(long+" ", 63) + digits + ")"
		if len(want) != api.MaxText+more {
			t.Fatalf("%d bytes", len(want))
		}
		if more <= 0 && (e != api.OK || got != want) || more > 0 && (e != api.ErrLong || got != "") {
			t.Errorf("%d bytes: %d, error %d", len(want), len(got), e)
		}
		if got, e := value.Text(tree("box", tree("t", args...)), data("Box"), g); e != api.ErrLong || got != "" {
			t.Errorf("a box around %d bytes: %d, error %d", len(want), len(got), e)
		}
	}
}

// P10.4: arrays whose rows make the text too long; and where it would be far too long.
func TestLongTextsOfArrays(t *testing.T) {
	s := array(wide(4000), wide(32))
	v := arr(s, vec(32))
	for i := range 300 {
		v.Rows = append(v.Rows, row(vec(4000, uint64(i)), vec(32, 1)))
	}
	each := len("(store ") + len(" #b)") + 4000 + len(" #b") + 32
	rest := api.MaxText - len("((as const (Array (_ BitVec 4000) (_ BitVec 32))) #b)") - 32
	n := rest / each
	v.Rows = v.Rows[:n]
	text, e := value.Text(v, s, api.Sig{})
	if e != api.OK || len(text) != api.MaxText-rest+n*each {
		t.Errorf("%d bytes, error %d; want %d", len(text), e, api.MaxText-rest+n*each)
	}
	v.Rows = v.Rows[:n+1]
	noText := func(v api.Value, s api.Sort) {
		t.Helper()
		if text, e := value.Text(v, s, some()); e != api.ErrLong || text != "" {
			t.Errorf("%d bytes, error %d", len(text), e)
		}
		if e := value.Check(v, s, some()); e != api.OK {
			t.Errorf("Check: error %d", e)
		}
	}
	noText(v, s)
	s = array(integer, integer)
	longest, _ := ofDigits(50000)
	v = arr(s, longest)
	for i := range int64(20000) {
		v.Rows = append(v.Rows, row(num(i), turned(longest, func(v *api.Value) { v.Int.Neg = true })))
	}
	noText(v, s)
	deep := boolean
	for range api.MaxSortDepth - 1 {
		deep = array(data("a datatype whose name is long, so that sorts are"), deep)
	}
	g := datas(datatype("a datatype whose name is long, so that sorts are", con("k", integer)))
	first, e := value.Default(deep, g)
	if e != api.OK {
		t.Fatalf("error %d", e)
	}
	if text, e := value.Text(first, deep, g); e != api.OK || strings.Count(text, "(as const") != api.MaxSortDepth-1 || !strings.HasSuffix(text, " false)))))))))))))))") {
		t.Errorf("%s, error %d", text, e)
	}
}
