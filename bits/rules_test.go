package bits_test

import (
	"math"
	"slices"
	"testing"

	"tribunal/api"
	"tribunal/bits"
)

// These are the tests of the order of errors, and of the rules that hold everywhere.

// noOps are numbers of no Op, and Ops that are none of this layer's.
func noOps() []api.Op {
	list := []api.Op{math.MinInt, -1, -42, 15, 16, 19, 35, 39, 76, 77, 99, 128, 1 << 32, 1<<32 + api.OBvAdd, math.MaxInt}
	for op := api.Op(0); op <= api.OBits; op++ {
		list = append(list, op)
	}
	return list
}

// An Op that is none comes ahead of all else.
func TestOpsThatAreNone(t *testing.T) {
	a, bad := vec("0101"), api.Bits{Width: 2, Val: api.Nat{4}}
	for _, op := range append(noOps(), ordered...) {
		for _, args := range [][]api.Bits{nil, {a}, {a, a}, {bad}, {a, bad}, {a, a, a}, {a, vec("1")}} {
			got, err := bits.Apply(op, []int{-1}, args...)
			fails(t, named(op, nil), got, err, api.ErrOp)
		}
	}
	for _, op := range slices.Concat(noOps(), unary, binary, turning, []api.Op{api.OConcat, api.OExtract}) {
		for _, args := range [][2]api.Bits{{a, a}, {bad, a}, {a, bad}, {a, vec("1")}} {
			if got, err := bits.Holds(op, args[0], args[1]); got || err != api.ErrOp {
				t.Errorf("Holds(%d): %v, error %d", op, got, err)
			}
		}
	}
}

func TestHoldsFails(t *testing.T) {
	for _, op := range ordered {
		expect := func(a, b api.Bits, want api.Errno) {
			t.Helper()
			if got, err := bits.Holds(op, a, b); got || err != want {
				t.Errorf("Holds(%d) of %d and %d bits: %v, error %d; want error %d", op, a.Width, b.Width, got, err, want)
			}
		}
		for _, bad := range none() {
			expect(bad, vec("0101"), api.ErrBits)
			expect(vec("0101"), bad, api.ErrBits)
			expect(bad, bad, api.ErrBits)
		}
		for _, a := range []api.Bits{vec("0"), vec("01"), vec("00101"), vec(small(64, 5)), vec(small(api.MaxWidth, 5))} {
			expect(a, vec("0101"), api.ErrSorts)
			expect(vec("0101"), a, api.ErrSorts)
		}
	}
}

// rightParams are some that each Op takes of vectors of 4 bits.
func rightParams(op api.Op) []int {
	switch op {
	case api.OExtract:
		return []int{2, 1}
	case api.ORepeat, api.OZeroExt, api.OSignExt, api.ORotL, api.ORotR:
		return []int{1}
	}
	return nil
}

// wrongParams are lists that an Op doesn't take, whatever its argument.
func wrongParams(op api.Op) [][]int {
	list := [][]int{nil, {}, {1, 1, 1}, {-1}, {api.MaxWidth + 1}, {math.MaxInt}, {math.MinInt}}
	switch op {
	case api.OExtract:
		return append(list, []int{0}, []int{2}, []int{1, 2}, []int{0, 1}, []int{-1, -1}, []int{1, -1}, []int{-1, 0}, []int{3, -4}, []int{api.MaxWidth + 1, 0}, []int{api.MaxWidth + 1, api.MaxWidth + 1},
			[]int{3, api.MaxWidth + 1}, []int{0, api.MaxWidth}, []int{3, 2, 1}, []int{math.MaxInt, math.MinInt}, []int{0, math.MinInt}, []int{math.MaxInt, 0})
	case api.ORepeat:
		list = append(list, []int{0})
	}
	return append(list, []int{1, 1}, []int{1, 0}, []int{0, 0}, []int{2, -1})
}

func TestArgsThatAreTooFewOrTooMany(t *testing.T) {
	a, bad := vec("0101"), api.Bits{Width: 2, Val: api.Nat{4}}
	one, two, three := []api.Bits{a}, []api.Bits{a, a}, []api.Bits{a, a, a}
	expect := func(op api.Op, lists ...[]api.Bits) {
		t.Helper()
		for _, args := range lists {
			for _, params := range append(wrongParams(op), rightParams(op)) {
				got, err := bits.Apply(op, params, args...)
				fails(t, named(op, params), got, err, api.ErrArgs)
			}
		}
	}
	many := make([]api.Bits, 1000)
	for _, op := range slices.Concat(unary, turning, []api.Op{api.OExtract}) {
		expect(op, nil, two, three, []api.Bits{bad, bad}, []api.Bits{a, vec("1")}, many)
	}
	for _, op := range append([]api.Op{api.OConcat}, binary...) {
		expect(op, nil, one, three, []api.Bits{bad}, []api.Bits{a, vec("1"), bad}, many)
	}
}

// Params that are wrong come ahead of what is no vector, and of widths that are.
func TestParamsThatAreWrong(t *testing.T) {
	for _, op := range append([]api.Op{api.OExtract}, turning...) {
		for _, params := range wrongParams(op) {
			for _, a := range append(none(), vec("0101"), vec(small(api.MaxWidth, 3))) {
				got, err := bits.Apply(op, params, a)
				fails(t, named(op, params), got, err, api.ErrParam)
			}
		}
	}
}

// Then comes an argument that is no vector, ahead of widths that are unlike or too great.
func TestArgsThatAreNoVectors(t *testing.T) {
	widest := vec(small(api.MaxWidth, 3))
	for _, bad := range none() {
		for _, op := range slices.Concat(unary, turning, []api.Op{api.OExtract}) {
			got, err := bits.Apply(op, rightParams(op), bad)
			fails(t, named(op, nil), got, err, api.ErrBits)
		}
		for _, op := range append([]api.Op{api.OConcat}, binary...) {
			for _, args := range [][]api.Bits{{bad, vec("0101")}, {vec("0101"), bad}, {bad, bad}, {widest, bad}, {bad, widest}} {
				got, err := bits.Apply(op, nil, args...)
				fails(t, named(op, nil), got, err, api.ErrBits)
			}
		}
		got, err := bits.Apply(api.OExtract, []int{api.MaxWidth, 0}, bad)
		fails(t, "OExtract with too high a bit", got, err, api.ErrBits)
		for _, op := range []api.Op{api.ORepeat, api.OZeroExt, api.OSignExt} {
			got, err := bits.Apply(op, []int{api.MaxWidth}, bad)
			fails(t, named(op, nil), got, err, api.ErrBits)
		}
	}
}

func TestWidthsThatAreUnlike(t *testing.T) {
	for _, op := range binary {
		for _, pair := range [][2]int{{1, 2}, {2, 1}, {4, 5}, {63, 64}, {64, 65}, {65, 64}, {1, api.MaxWidth}, {api.MaxWidth, 1}, {api.MaxWidth, api.MaxWidth - 1}} {
			got, err := bits.Apply(op, nil, vec(small(pair[0], 1)), vec(small(pair[1], 1)))
			fails(t, named(op, nil), got, err, api.ErrSorts)
		}
	}
}

// call is one of the calls that answer vectors, or numbers as vectors of the width 0.
type call struct {
	name string
	do   func(a, b api.Bits) api.Bits
}

func calls() []call {
	only := func(b api.Bits, _ api.Errno) api.Bits { return b }
	number := func(n api.Int, _ api.Errno) api.Bits { return api.Bits{Val: n.Mag} }
	list := []call{
		{"From(a)", func(a, b api.Bits) api.Bits { return only(bits.From(a.Width, api.Int{Mag: a.Val})) }},
		{"From(-a)", func(a, b api.Bits) api.Bits { return only(bits.From(a.Width, api.Int{Neg: true, Mag: a.Val})) }},
		{"From(1, a)", func(a, b api.Bits) api.Bits { return only(bits.From(1, api.Int{Mag: a.Val})) }},
		{"Unsigned(a)", func(a, b api.Bits) api.Bits { return number(bits.Unsigned(a)) }},
		{"Signed(a)", func(a, b api.Bits) api.Bits { return number(bits.Signed(a)) }},
		{"Right(a)", func(a, b api.Bits) api.Bits { bits.Right(a); return api.Bits{} }},
		{"Parse(Text(a, 2))", func(a, b api.Bits) api.Bits { s, _ := bits.Text(a, 2); return only(bits.Parse(s)) }},
		{"Parse(Text(a, 16))", func(a, b api.Bits) api.Bits { s, _ := bits.Text(a, 16); return only(bits.Parse(s)) }},
	}
	for _, op := range ordered {
		list = append(list, call{"Holds " + named(op, nil), func(a, b api.Bits) api.Bits { bits.Holds(op, a, b); return api.Bits{} }})
	}
	for _, op := range append([]api.Op{api.OConcat}, binary...) {
		list = append(list, call{named(op, nil), func(a, b api.Bits) api.Bits { return only(bits.Apply(op, nil, a, b)) }})
		list = append(list, call{named(op, nil, "a a"), func(a, b api.Bits) api.Bits { return only(bits.Apply(op, nil, a, a)) }})
	}
	for _, op := range unary {
		list = append(list, call{named(op, nil), func(a, b api.Bits) api.Bits { return only(bits.Apply(op, nil, a)) }})
	}
	for _, op := range turning {
		for _, k := range []int{0, 1, 2, 3, 64, 70} {
			list = append(list, call{named(op, []int{k}), func(a, b api.Bits) api.Bits { return only(bits.Apply(op, []int{k}, a)) }})
		}
	}
	for _, params := range [][]int{{0, 0}, {1, 0}, {63, 0}, {64, 0}, {70, 3}, {99, 64}, {127, 0}, {128, 64}} {
		list = append(list, call{named(api.OExtract, params), func(a, b api.Bits) api.Bits { return only(bits.Apply(api.OExtract, params, a)) }})
	}
	return list
}

// kept are pairs of vectors for which it is asked what becomes of memory.
func kept() [][2]api.Bits {
	var list [][2]api.Bits
	for _, w := range []int{1, 4, 63, 64, 65, 100, 128, 129, 200} {
		all := samples(w)
		for i, a := range all {
			list = append(list, [2]api.Bits{vec(a), vec(all[(i*7+5)%len(all)])}, [2]api.Bits{paddedWith(vec(a), 2), paddedWith(vec(all[i/2]), 1)})
		}
	}
	return append(list, [2]api.Bits{vec(small(api.MaxWidth, -1)), vec(small(api.MaxWidth, 3))}, [2]api.Bits{vec("101"), vec(small(90, -5))})
}

// roomy is a vector whose limbs have room to spare, which is not zero; and its limbs with that room.
func roomy(b api.Bits) (api.Bits, api.Nat) {
	room := append(slices.Clone(b.Val), 11, 22, 33)
	return api.Bits{Width: b.Width, Val: room[:len(b.Val)]}, room
}

// What is handed in is not changed, and no answer shares memory with it, spare room included; none has zeros on top.
func TestMemory(t *testing.T) {
	for _, c := range calls() {
		for _, pair := range kept() {
			checkMemory(t, c, pair[0], pair[1])
		}
	}
}

func checkMemory(t *testing.T, c call, x, y api.Bits) {
	t.Helper()
	a, roomA := roomy(x)
	b, roomB := roomy(y)
	wasA, wasB := slices.Clone(roomA), slices.Clone(roomB)
	got := c.do(a, b)
	if !slices.Equal(roomA, wasA) || !slices.Equal(roomB, wasB) {
		t.Fatalf("%s of %s, %s changes what is handed in", c.name, short(row(x)), short(row(y)))
	}
	if n := len(got.Val); n > 0 && got.Val[n-1] == 0 {
		t.Fatalf("%s of %s, %s: zeros on top", c.name, short(row(x)), short(row(y)))
	}
	before := api.Bits{Width: got.Width, Val: slices.Clone(got.Val)}
	for i := range got.Val[:cap(got.Val)] {
		got.Val[:cap(got.Val)][i] = 0xdead
	}
	if !slices.Equal(roomA, wasA) || !slices.Equal(roomB, wasB) {
		t.Fatalf("%s of %s, %s: an answer shares memory with what is handed in", c.name, short(row(x)), short(row(y)))
	}
	if again := c.do(a, b); !same(again, before) {
		t.Fatalf("%s of %s, %s: another answer the second time", c.name, short(row(x)), short(row(y)))
	}
}

// The lists of arguments and of params are not changed either, spare room included.
func TestListsAreNotChanged(t *testing.T) {
	for _, op := range slices.Concat(unary, turning, binary, []api.Op{api.OConcat, api.OExtract}) {
		args := []api.Bits{paddedWith(vec("1010"), 1), vec("0110"), vec("1"), vec("11")}
		params := append(rightParams(op), 5, 6, 7)
		wasArgs, wasParams := slices.Clone(args), slices.Clone(params)
		for many := range 4 {
			bits.Apply(op, params[:len(rightParams(op))], args[:many]...)
		}
		for i, b := range args {
			if !same(b, wasArgs[i]) {
				t.Errorf("%s changes its argument %d", named(op, nil), i)
			}
		}
		if !slices.Equal(params, wasParams) {
			t.Errorf("%s changes its params", named(op, nil))
		}
	}
}

func TestNoCallPanics(t *testing.T) {
	list := append(none(), vec("0"), vec("1"), vec(small(64, -1)), paddedWith(vec(small(65, -2)), 5000), vec(small(api.MaxWidth, -1)), paddedWith(vec(small(api.MaxWidth, 0)), 1))
	for _, c := range calls() {
		for _, a := range list {
			for _, b := range list {
				callSafely(t, c, a, b)
			}
		}
	}
	ops := slices.Concat(noOps(), unary, binary, turning, ordered, []api.Op{api.OConcat, api.OExtract})
	lists := append(wrongParams(api.OExtract), []int{1}, []int{0}, []int{2, 1}, []int{api.MaxWidth}, []int{api.MaxWidth, api.MaxWidth})
	for _, op := range ops {
		for _, params := range lists {
			for many := range 4 {
				c := call{named(op, params), func(a, b api.Bits) api.Bits {
					got, _ := bits.Apply(op, params, []api.Bits{a, b, a}[:many]...)
					return got
				}}
				for i, a := range list {
					callSafely(t, c, a, list[(i*5+3)%len(list)])
					callSafely(t, c, a, a)
				}
			}
		}
	}
}

func callSafely(t *testing.T, c call, a, b api.Bits) {
	defer func() {
		if p := recover(); p != nil {
			t.Errorf("%s of %d and %d bits panics: %v", c.name, a.Width, b.Width, p)
		}
	}()
	c.do(a, b)
}
