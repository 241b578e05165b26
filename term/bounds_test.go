package term_test

import (
	"strings"
	"testing"

	"tribunal/api"
	"tribunal/whole"
)

func zeros(n int) string { return strings.Repeat("0", n) }

// P5.2: Params at their bounds, of a BitVec of each width.
func TestBoundsOfParams(t *testing.T) {
	b := tableOf(t, some())
	for w, arg := range map[int]int{1: constant(t, b, "b1"), 4: constant(t, b, "b4"), 2048: constant(t, b, "b2048"), 4095: constant(t, b, "b4095"), 4096: constant(t, b, "b4096")} {
		for _, k := range []int{-1 << 63, -1, 0, 1, 2, 3, 4, w - 1, w, w + 1, 2047, 2048, 2049, 4092, 4094, 4095, 4096, 4097, 1 << 40, 1<<63 - 1} {
			asks := func(op api.Op, width int, list ...int) {
				t.Helper()
				n := api.Node{Op: op, Params: list, Args: []int{arg}}
				for _, p := range list {
					if p < 0 || p > 4096 {
						refuses(t, b, n, api.ErrParam)
						return
					}
				}
				switch {
				case op == api.ORepeat && k == 0:
					refuses(t, b, n, api.ErrParam)
				case op == api.OExtract && list[1] > list[0]:
					refuses(t, b, n, api.ErrParam)
				case op == api.OExtract && list[0] >= w, width > 4096:
					refuses(t, b, n, api.ErrWidth)
				default:
					i := put(t, b, n)
					isNode(t, b, i, n)
					if s, _ := b.Sort(i); s.Kind != api.KBits || s.Width != width {
						t.Errorf("%s of %d bits: %+v", brief(n), w, s)
					}
				}
			}
			asks(api.ORepeat, k*w, k)
			asks(api.OZeroExt, k+w, k)
			asks(api.OSignExt, k+w, k)
			asks(api.ORotL, w, k)
			asks(api.ORotR, w, k)
			asks(api.OExtract, k+1, k, 0)
			asks(api.OExtract, 1, k, k)
			asks(api.OExtract, w-k, w-1, k)
			asks(api.OExtract, 1-k, 0, k)
		}
	}
}

// P5.2: how many Params; those of other Ops are not asked.
func TestNumbersOfParams(t *testing.T) {
	b := tableOf(t, some())
	four := constant(t, b, "b4")
	for _, op := range []api.Op{api.OExtract, api.ORepeat, api.OZeroExt, api.OSignExt, api.ORotL, api.ORotR} {
		for many := range 10 {
			n := api.Node{Op: op, Params: times(1, many), Args: []int{four}}
			if op == api.OExtract && many == 2 || op != api.OExtract && many == 1 {
				put(t, b, n)
			} else {
				refuses(t, b, n, api.ErrParam)
			}
		}
		refuses(t, b, api.Node{Op: op, Params: []int{1, 1, -1}, Args: []int{four}}, api.ErrParam)
	}
}

// P5.2: results of MaxWidth bits, and of one more.
func TestWidths(t *testing.T) {
	b := tableOf(t, some())
	one, half, less, top := constant(t, b, "b1"), constant(t, b, "b2048"), constant(t, b, "b4095"), constant(t, b, "b4096")
	isTerm(t, b, app(t, b, api.OConcat, less, one), wide(4096), "(concat b4095 b1)")
	isTerm(t, b, app(t, b, api.OConcat, half, half), wide(4096), "(concat b2048 b2048)")
	isTerm(t, b, params(t, b, api.ORepeat, half, 2), wide(4096), "((_ repeat 2) b2048)")
	isTerm(t, b, params(t, b, api.ORepeat, one, 4096), wide(4096), "((_ repeat 4096) b1)")
	isTerm(t, b, params(t, b, api.OSignExt, less, 1), wide(4096), "((_ sign_extend 1) b4095)")
	isTerm(t, b, params(t, b, api.OExtract, top, 4095, 0), wide(4096), "((_ extract 4095 0) b4096)")
	isTerm(t, b, params(t, b, api.OExtract, top, 4095, 4095), wide(1), "((_ extract 4095 4095) b4096)")
	refuses(t, b, api.Node{Op: api.OConcat, Args: []int{top, one}}, api.ErrWidth)
	refuses(t, b, api.Node{Op: api.OConcat, Args: []int{less, constant(t, b, "b4")}}, api.ErrWidth)
	refuses(t, b, api.Node{Op: api.ORepeat, Params: []int{3}, Args: []int{half}}, api.ErrWidth)
	refuses(t, b, api.Node{Op: api.ORepeat, Params: []int{2}, Args: []int{less}}, api.ErrWidth)
	refuses(t, b, api.Node{Op: api.OZeroExt, Params: []int{2}, Args: []int{less}}, api.ErrWidth)
	refuses(t, b, api.Node{Op: api.OExtract, Params: []int{4096, 0}, Args: []int{top}}, api.ErrWidth)
}

// P5.2: OBits: widths at their bounds, and the greatest number of each, with zeros on top, and one more.
func TestBoundsOfBits(t *testing.T) {
	b := tableOf(t, some())
	for _, w := range []int{1, 2, 63, 64, 65, 127, 128, 4095, 4096} {
		val := make(api.Nat, w/64+3)
		val[w/64] = 1 << (w % 64)
		refuses(t, b, api.Node{Op: api.OBits, Bits: api.Bits{Width: w, Val: val}}, api.ErrWidth)
		for i := range w / 64 {
			val[i] = ^uint64(0)
		}
		val[w/64]--
		isTerm(t, b, vector(t, b, w, val...), wide(w), "#b"+strings.Repeat("1", w))
		isTerm(t, b, vector(t, b, w, 1), wide(w), "#b"+zeros(w-1)+"1")
		isTerm(t, b, vector(t, b, w, 0), wide(w), "#b"+zeros(w))
	}
	for _, w := range []int{-1 << 63, -64, -1, 0, 4097, 1 << 40, 1<<63 - 1} {
		refuses(t, b, api.Node{Op: api.OBits, Bits: api.Bits{Width: w}}, api.ErrWidth)
		refuses(t, b, api.Node{Op: api.OBits, Bits: api.Bits{Width: w, Val: api.Nat{1}}}, api.ErrWidth)
	}
}

// P5.2: ONum: MaxLimbs limbs, with zeros on top or not, and one more.
func TestBoundsOfNumbers(t *testing.T) {
	b := tableOf(t, some())
	most := make(api.Nat, 4096, 9000)
	for i := range most {
		most[i] = ^uint64(0)
	}
	for _, neg := range []bool{false, true} {
		told := api.Node{Op: api.ONum, Int: api.Int{Neg: neg, Mag: most}}
		for _, top := range []int{0, 1, 4000} {
			n := told
			n.Int.Mag = most[:4096+top]
			isNode(t, b, put(t, b, n), told)
		}
		for _, long := range []api.Nat{append(make(api.Nat, 4096), 1), append(make(api.Nat, 4096), 1, 0, 0), append(make(api.Nat, 8000), 7)} {
			refuses(t, b, api.Node{Op: api.ONum, Int: api.Int{Neg: neg, Mag: long}}, api.ErrBig)
		}
	}
	if b.Len() != 2 {
		t.Errorf("%d terms", b.Len())
	}
}

// P5.2: which terms are numerals, and which are of 0.
func TestNumerals(t *testing.T) {
	b := tableOf(t, some())
	x := constant(t, b, "x")
	three, zero, below := number(t, b, 3), number(t, b, 0), number(t, b, -3)
	wideNumber := put(t, b, api.Node{Op: api.ONum, Int: api.Int{Mag: api.Nat{0, 1}}})
	minus := app(t, b, api.OMinus, three)
	good := []int{three, below, wideNumber, minus, app(t, b, api.OMinus, below), app(t, b, api.OMinus, wideNumber)}
	noughts := []int{zero, app(t, b, api.OMinus, zero)}
	none := []int{x, app(t, b, api.OMinus, x), app(t, b, api.OMinus, minus), app(t, b, api.OAbs, three), app(t, b, api.OAdd, three, three), app(t, b, api.OSub, zero, three), app(t, b, api.OMul, three, three), app(t, b, api.ODiv, three, three), app(t, b, api.OIte, constant(t, b, "p"), three, three), named(t, b, api.OFun, "f", three)}
	for _, op := range []api.Op{api.OMul, api.ODiv, api.OMod} {
		for _, first := range append(append(good, noughts...), none...) {
			for _, second := range good {
				app(t, b, op, first, second)
			}
			for _, second := range noughts {
				if op == api.OMul {
					app(t, b, op, first, second)
				} else {
					refuses(t, b, api.Node{Op: op, Args: []int{first, second}}, api.ErrLinear)
				}
			}
		}
		for _, second := range none {
			for _, first := range none {
				refuses(t, b, api.Node{Op: op, Args: []int{first, second}}, api.ErrLinear)
			}
			for _, first := range append(good, noughts...) {
				if op == api.OMul {
					app(t, b, op, first, second)
				} else {
					refuses(t, b, api.Node{Op: op, Args: []int{first, second}}, api.ErrLinear)
				}
			}
		}
	}
}

// P5.2: the Sort of an OConst: no array; not declared; too deep, of too many parts, without an end.
func TestSortsOfConsts(t *testing.T) {
	b := tableOf(t, some())
	x := constant(t, b, "x")
	leaf := integer
	for depth := 2; depth < 20; depth++ {
		s := array(leaf, integer)
		if depth <= 16 {
			i := everywhere(t, b, s, x)
			isNode(t, b, i, api.Node{Op: api.OConst, Sort: s, Args: []int{x}})
			leaf = s
			continue
		}
		refuses(t, b, api.Node{Op: api.OConst, Sort: s, Args: []int{x}}, api.ErrParam)
	}
	endless := make([]api.Sort, 2)
	endless[0], endless[1] = integer, api.Sort{Kind: api.KArray, Args: endless}
	bushy := integer
	for range 40 {
		bushy = array(bushy, bushy)
	}
	for _, s := range []api.Sort{
		{}, integer, boolean, wide(4), user("U"), data("List"), {Kind: api.KArray}, {Kind: api.KArray, Args: []api.Sort{integer}}, {Kind: api.KArray, Args: []api.Sort{integer, integer, integer}},
		{Kind: api.KArray, Name: "a", Args: []api.Sort{integer, integer}}, {Kind: api.KArray, Width: 1, Args: []api.Sort{integer, integer}},
		array(user("V"), integer), array(data("U"), integer), array(user("List"), integer), array(data("nil"), integer), array(wide(0), integer), array(wide(4097), integer), array(api.Sort{Kind: 9}, integer),
		endless[1], array(integer, endless[1]), bushy,
	} {
		refuses(t, b, api.Node{Op: api.OConst, Sort: s, Args: []int{x}}, api.ErrParam)
	}
}

// An array sort as deep as may be is selected from, stored into and applied, level by level.
func TestDeepSorts(t *testing.T) {
	s := integer
	var funs []api.Fun
	for range 15 {
		s = array(boolean, s)
		funs = append(funs, fun("a"+zeros(len(funs)), s), fun("f"+zeros(len(funs)), s, s))
	}
	b := tableOf(t, api.Sig{Funs: funs})
	yes := put(t, b, api.Node{Op: api.OTrue})
	i := constant(t, b, funs[28].Name)
	for level := 14; level >= 0; level-- {
		i = named(t, b, api.OFun, funs[2*level+1].Name, i)
		i = app(t, b, api.OStore, i, yes, app(t, b, api.OSelect, i, yes))
		if got, _ := b.Sort(i); len(got.Args) != 2 {
			t.Fatalf("level %d: %+v", level, got)
		}
		i = app(t, b, api.OSelect, i, yes)
	}
	if got, _ := b.Sort(i); got.Kind != api.KInt {
		t.Errorf("Sort: %+v", got)
	}
}

// P5.2: MaxTerms: nothing more is put there; what is there is found.
func TestFullTable(t *testing.T) {
	b := tableOf(t, some())
	x := constant(t, b, "x")
	for i := 1; i < api.MaxTerms; i++ {
		if got, e := b.Make(api.OMinus, i-1); got != i || e != api.OK {
			t.Fatalf("the term %d: %d, error %d", i, got, e)
		}
	}
	refuses(t, b, api.Node{Op: api.OMinus, Args: []int{api.MaxTerms - 1}}, api.ErrMany)
	refuses(t, b, api.Node{Op: api.ONum, Int: whole.Of(1)}, api.ErrMany)
	refuses(t, b, api.Node{Op: api.OMul, Args: []int{x, x}}, api.ErrLinear)
	refuses(t, b, api.Node{Op: api.OMinus, Args: []int{api.MaxTerms}}, api.ErrArg)
	for _, i := range []int{1, 2, 77777, api.MaxTerms - 1} {
		if got := app(t, b, api.OMinus, i-1); got != i {
			t.Errorf("the term %d is %d", i, got)
		}
	}
	if got := constant(t, b, "x"); got != x {
		t.Errorf("x is %d", got)
	}
	if list := b.Below(api.MaxTerms - 1); len(list) != api.MaxTerms || list[0] != 0 || list[77777] != 77777 {
		t.Errorf("Below of the last one: %d terms", len(list))
	}
	if text, e := b.Text(api.MaxTerms - 1); text != "" || e != api.ErrLong {
		t.Errorf("Text of the last one: %d bytes, error %d", len(text), e)
	}
}
