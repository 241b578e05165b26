package term_test

import (
	"slices"
	"strings"
	"testing"

	"tribunal/api"
	"tribunal/term"
)

// P5.2: no Op of the chapter's table.
func TestNoOp(t *testing.T) {
	b := tableOf(t, some())
	x := constant(t, b, "x")
	there := map[api.Op]bool{}
	for _, r := range chapter() {
		there[r.op] = true
	}
	if len(there) != 65 {
		t.Errorf("%d Ops", len(there))
	}
	for op := api.Op(-300); op < 300; op++ {
		_, e := b.Make(op, x, x, x, x, x, x, x)
		if (e == api.ErrOp) == there[op] {
			t.Errorf("Op %d: error %d", op, e)
		}
	}
	for _, op := range []api.Op{0, 15, 19, 35, 39, 76, 1 << 40, -1 << 63, 1<<63 - 1} {
		refuses(t, b, api.Node{Op: op, Name: "x", Args: []int{-1}}, api.ErrOp)
	}
}

// P5.2: names that are not declared as they must be.
func TestNoSymbol(t *testing.T) {
	b := tableOf(t, some())
	l, x := constant(t, b, "l"), constant(t, b, "x")
	names := map[api.Op][]string{
		api.OFun: {"x", "f", "and"}, api.OCon: {"nil", "cons", "red"}, api.OSel: {"head", "the lid"}, api.OIs: {"nil", "cons", "light green"},
	}
	for op := range names {
		for _, name := range []string{"", "z", "X", "U", "List", "Color", "Bool", "Int", "|x|", "x ", "nil|", "x\x00", "true"} {
			refuses(t, b, api.Node{Op: op, Name: name}, api.ErrSymbol)
			refuses(t, b, api.Node{Op: op, Name: name, Args: []int{l, x, -1}}, api.ErrSymbol)
		}
		for other, list := range names {
			for _, name := range list {
				n := api.Node{Op: op, Name: name, Args: []int{-1, -1, -1, -1, -1}}
				if op == other || op == api.OIs && other == api.OCon || op == api.OCon && other == api.OIs {
					refuses(t, b, n, api.ErrArgs)
				} else {
					refuses(t, b, n, api.ErrSymbol)
				}
			}
		}
	}
}

// sample is a node of a row's Op without arguments, terms that may be its arguments, the last one again and again, and how many it takes.
func sample(t *testing.T, b *term.Table, r row) (api.Node, []int, int, int) {
	n := api.Node{Op: r.op, Sort: array(integer, integer), Bits: api.Bits{Width: 3}, Params: []int{2}}
	if r.op == api.OExtract {
		n.Params = []int{2, 1}
	}
	p, x, l, four, two := constant(t, b, "p"), constant(t, b, "x"), constant(t, b, "l"), constant(t, b, "b4"), number(t, b, 2)
	declared := map[api.Op]struct {
		name string
		args []int
	}{
		api.OFun: {"g", []int{x, p, constant(t, b, "a")}}, api.OCon: {"cons", []int{x, l}}, api.OSel: {"head", []int{l}}, api.OIs: {"nil", []int{l}},
	}
	if d, ok := declared[r.op]; ok {
		n.Name = d.name
		return n, d.args, len(d.args), len(d.args)
	}
	var args []int
	terms := map[string]int{"Bool": p, "Int": two, "s": x, "t": x, "A": constant(t, b, "a"), "v": four, "w": four}
	for _, letter := range strings.Fields(strings.TrimSuffix(r.args, "*")) {
		args = append(args, terms[letter])
	}
	if strings.HasSuffix(r.args, "*") {
		return n, args, 2, api.MaxArgs
	}
	return n, args, len(args), len(args)
}

// P5.2: how many arguments, each Op; MaxArgs and one more.
func TestNumbersOfArguments(t *testing.T) {
	for _, r := range chapter() {
		b := tableOf(t, some())
		n, args, least, most := sample(t, b, r)
		for many := range 200 {
			n.Args = slices.Clone(args[:min(many, len(args))])
			for len(n.Args) < many {
				n.Args = append(n.Args, append(args, 0)[max(len(args)-1, 0)])
			}
			if least <= many && many <= most {
				put(t, b, n)
				continue
			}
			refuses(t, b, n, api.ErrArgs)
			n.Args = times(-1, many)
			refuses(t, b, n, api.ErrArgs)
		}
	}
}

// P5.2: arguments that are no terms, at each place.
func TestNoArgument(t *testing.T) {
	b := tableOf(t, some())
	refuses(t, b, api.Node{Op: api.ONot, Args: []int{0}}, api.ErrArg)
	p, x := constant(t, b, "p"), constant(t, b, "x")
	for _, bad := range []int{-1, 2, 3, 1 << 20, 1 << 40, -1 << 63, 1<<63 - 1} {
		refuses(t, b, api.Node{Op: api.ONot, Args: []int{bad}}, api.ErrArg)
		for k := range 3 {
			args := []int{p, x, x}
			args[k] = bad
			refuses(t, b, api.Node{Op: api.OIte, Args: args}, api.ErrArg)
			refuses(t, b, api.Node{Op: api.OFun, Name: "g", Args: args}, api.ErrArg)
		}
		refuses(t, b, api.Node{Op: api.OAnd, Args: append(times(p, 63), bad)}, api.ErrArg)
		refuses(t, b, api.Node{Op: api.OAnd, Args: append([]int{x}, bad)}, api.ErrArg)
	}
}

// P5.2: arguments of other sorts, at each place.
func TestNoSort(t *testing.T) {
	b := tableOf(t, some())
	bad := func(op api.Op, name string, args ...string) {
		t.Helper()
		n := api.Node{Op: op, Name: name, Params: []int{1}, Sort: array(integer, wide(4))}
		if op == api.OExtract {
			n.Params = []int{1, 0}
		}
		for _, arg := range args {
			n.Args = append(n.Args, constant(t, b, arg))
		}
		refuses(t, b, n, api.ErrSorts)
	}
	for _, op := range []api.Op{api.OAnd, api.OOr, api.OXor, api.OImplies} {
		bad(op, "", "x", "p")
		bad(op, "", "p", "x")
		bad(op, "", "p", "fake")
		bad(op, "", "b1", "b1")
	}
	for _, op := range []api.Op{api.OAdd, api.OSub, api.OMul, api.ODiv, api.OMod, api.OLe, api.OLt, api.OGe, api.OGt} {
		bad(op, "", "x", "p")
		bad(op, "", "b4", "x")
		bad(op, "", "b4", "b4")
	}
	for _, op := range []api.Op{api.OEq, api.ODistinct} {
		bad(op, "", "x", "p")
		bad(op, "", "b4", "b8")
		bad(op, "", "p", "fake")
		bad(op, "", "u", "m")
		bad(op, "", "a", "ab")
		bad(op, "", "l", "c")
	}
	bad(api.ODistinct, "", "x", "y", "x", "p")
	bad(api.OIte, "", "x", "x", "x")
	bad(api.OIte, "", "p", "x", "p")
	bad(api.OIte, "", "fake", "x", "x")
	bad(api.OFun, "g", "p", "p", "a")
	bad(api.OFun, "g", "x", "x", "a")
	bad(api.OFun, "g", "x", "p", "ab")
	bad(api.OCon, "cons", "l", "l")
	bad(api.OCon, "cons", "x", "x")
	bad(api.OSel, "head", "c")
	bad(api.OSel, "hue", "l")
	bad(api.OIs, "cons", "c")
	bad(api.OIs, "red", "l")
	for _, op := range []api.Op{api.OMinus, api.OAbs, api.ONot, api.OBvNot, api.OBvNeg, api.OExtract, api.ORepeat, api.OZeroExt, api.OSignExt, api.ORotL, api.ORotR} {
		bad(op, "", "a")
		bad(op, "", "u")
	}
	bad(api.OConst, "", "x")
	bad(api.OConst, "", "b8")
	bad(api.OConst, "", "ab")
	bad(api.OSelect, "", "x", "x")
	bad(api.OSelect, "", "a", "p")
	bad(api.OSelect, "", "af", "p")
	bad(api.OSelect, "", "l", "x")
	bad(api.OStore, "", "ab", "b4", "b4")
	bad(api.OStore, "", "ab", "x", "x")
	bad(api.OStore, "", "x", "x", "x")
	for _, r := range chapter() {
		if r.args == "w w" || r.args == "v w" {
			bad(r.op, "", "b4", "x")
			bad(r.op, "", "x", "b4")
			bad(r.op, "", "p", "p")
			bad(r.op, "", "b4", "a")
		}
		if r.args == "w w" {
			bad(r.op, "", "b4", "b8")
			bad(r.op, "", "b8", "b4")
		}
	}
}

// P5.2: which of two errors is told: for each two neighbours of the chapter's list that one node may have, and more.
func TestOrderOfErrors(t *testing.T) {
	b := tableOf(t, some())
	p, x, four, top := constant(t, b, "p"), constant(t, b, "x"), constant(t, b, "b4"), constant(t, b, "b4096")
	zero := number(t, b, 0)
	long := api.Int{Mag: append(make(api.Nat, 4096), 1)}
	ints := array(integer, integer)
	for _, c := range []struct {
		n    api.Node
		want api.Errno
	}{
		{api.Node{Op: 15, Name: "z", Params: []int{-1}, Args: []int{-1}}, api.ErrOp},
		{api.Node{Op: api.OFun, Name: "z", Args: []int{-1, -1}}, api.ErrSymbol},
		{api.Node{Op: api.OFun, Name: "f", Args: []int{-1, -1}}, api.ErrArgs},
		{api.Node{Op: api.OFun, Name: "f", Args: []int{p, p}}, api.ErrArgs},
		{api.Node{Op: api.OFun, Name: "g", Args: []int{p, p, -1}}, api.ErrArg},
		{api.Node{Op: api.OExtract, Args: []int{-1, -1}}, api.ErrArgs},
		{api.Node{Op: api.OExtract, Args: []int{-1}}, api.ErrArg},
		{api.Node{Op: api.OExtract, Params: []int{1, 2}, Args: []int{99}}, api.ErrArg},
		{api.Node{Op: api.OExtract, Params: []int{1, 2}, Args: []int{x}}, api.ErrParam},
		{api.Node{Op: api.OExtract, Params: []int{9, 4097}, Args: []int{four}}, api.ErrParam},
		{api.Node{Op: api.OExtract, Params: []int{9, 2}, Args: []int{x}}, api.ErrSorts},
		{api.Node{Op: api.OExtract, Params: []int{9, 2}, Args: []int{four}}, api.ErrWidth},
		{api.Node{Op: api.ORepeat, Params: []int{0}, Args: []int{x}}, api.ErrParam},
		{api.Node{Op: api.ORepeat, Params: []int{4097}, Args: []int{top}}, api.ErrParam},
		{api.Node{Op: api.ORepeat, Params: []int{4096}, Args: []int{p}}, api.ErrSorts},
		{api.Node{Op: api.ORepeat, Params: []int{4096}, Args: []int{top}}, api.ErrWidth},
		{api.Node{Op: api.OZeroExt, Params: []int{4096}, Args: []int{x}}, api.ErrSorts},
		{api.Node{Op: api.OConcat, Args: []int{top, x}}, api.ErrSorts},
		{api.Node{Op: api.OConcat, Args: []int{x, top}}, api.ErrSorts},
		{api.Node{Op: api.OConcat, Args: []int{top, top}}, api.ErrWidth},
		{api.Node{Op: api.OConst, Sort: integer, Args: []int{-1}}, api.ErrArg},
		{api.Node{Op: api.OConst, Sort: integer}, api.ErrArgs},
		{api.Node{Op: api.OConst, Sort: array(integer, user("V")), Args: []int{p}}, api.ErrParam},
		{api.Node{Op: api.OConst, Sort: ints, Args: []int{p}}, api.ErrSorts},
		{api.Node{Op: api.ONum, Int: long, Args: []int{-1}}, api.ErrArgs},
		{api.Node{Op: api.ONum, Int: long}, api.ErrBig},
		{api.Node{Op: api.OBits, Bits: api.Bits{Width: -1}, Args: []int{0}}, api.ErrArgs},
		{api.Node{Op: api.OBits, Bits: api.Bits{Width: 4097, Val: long.Mag}}, api.ErrWidth},
		{api.Node{Op: api.OMul, Args: []int{x, p}}, api.ErrSorts},
		{api.Node{Op: api.OMul, Args: []int{x, x}}, api.ErrLinear},
		{api.Node{Op: api.ODiv, Args: []int{p, zero}}, api.ErrSorts},
		{api.Node{Op: api.OMod, Args: []int{x, zero}}, api.ErrLinear},
		{api.Node{Op: api.OMod, Args: []int{x, 99}}, api.ErrArg},
		{api.Node{Op: api.OMod, Args: []int{x, zero, zero}}, api.ErrArgs},
	} {
		refuses(t, b, c.n, c.want)
		for _, none := range []*term.Table{nil, {}} {
			if i, e := none.Add(c.n); i != 0 || e != api.ErrNil {
				t.Errorf("Add of no table: %d, error %d", i, e)
			}
		}
	}
}

// P5.1: New answers sort.CheckSig's errors, and no table.
func TestNoSignature(t *testing.T) {
	for want, g := range map[api.Errno]api.Sig{
		api.ErrMany:   {Datas: []api.Datatype{{Name: "D"}}},
		api.ErrName:   {Users: []string{"|"}},
		api.ErrTwice:  {Funs: []api.Fun{fun("x", integer), fun("x", boolean)}},
		api.ErrSort:   {Funs: []api.Fun{fun("x", user("V"))}},
		api.ErrNest:   {Datas: []api.Datatype{{Name: "D", Cons: []api.Con{{Name: "d"}, {Name: "e", Sels: []api.Sel{{Name: "f", Sort: array(integer, data("D"))}}}}}}},
		api.ErrGround: {Datas: []api.Datatype{{Name: "D", Cons: []api.Con{{Name: "d", Sels: []api.Sel{{Name: "e", Sort: data("D")}}}}}}},
	} {
		if b, e := term.New(g); b != nil || e != want {
			t.Errorf("New(%+v): error %d; want %d", g, e, want)
		}
	}
	b := tableOf(t, api.Sig{})
	if b.Len() != 0 || !slices.Equal(b.Below(0, 1), nil) {
		t.Errorf("a new table has %d terms", b.Len())
	}
	refuses(t, b, api.Node{Op: api.OFun}, api.ErrSymbol)
	put(t, b, api.Node{Op: api.OTrue})
}
