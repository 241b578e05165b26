package term_test

import (
	"fmt"
	"math/big"
	"slices"
	"strings"

	"tribunal/api"
	"tribunal/sort"
)

func write(text *strings.Builder, n api.Node) {
	fmt.Fprintf(text, "{Op %d Name %q Int %v Bits %v Sort.Kind %d Params %v Args %v}", n.Op, n.Name, n.Int, n.Bits, n.Sort.Kind, n.Params, n.Args)
}

// row is a line of the chapter's table. Of the sorts, s and t are any, A is the array from s to t, v and w are BitVecs; a * behind a sort: 2 to 64 of it.
type row struct {
	op    api.Op
	head  string
	field string // what is looked at beside Args
	args  string
	ret   string
}

func chapter() []row {
	list := []row{
		{api.OTrue, "true", "", "", "Bool"}, {api.OFalse, "false", "", "", "Bool"}, {api.ONot, "not", "", "Bool", "Bool"},
		{api.OAnd, "and", "", "Bool*", "Bool"}, {api.OOr, "or", "", "Bool*", "Bool"},
		{api.OXor, "xor", "", "Bool Bool", "Bool"}, {api.OImplies, "=>", "", "Bool Bool", "Bool"},
		{api.OEq, "=", "", "s s", "Bool"}, {api.ODistinct, "distinct", "", "s*", "Bool"}, {api.OIte, "ite", "", "Bool s s", "s"},
		{api.OFun, "", "Name", "", ""}, {api.OCon, "", "Name", "", ""}, {api.OSel, "", "Name", "", ""}, {api.OIs, "is", "Name", "", ""},
		{api.ONum, "", "Int", "", "Int"}, {api.OMinus, "-", "", "Int", "Int"}, {api.OAbs, "abs", "", "Int", "Int"}, {api.OAdd, "+", "", "Int*", "Int"},
		{api.OSelect, "select", "", "A s", "t"}, {api.OStore, "store", "", "A s t", "A"}, {api.OConst, "", "Sort", "t", "A"},
		{api.OBits, "", "Bits", "", "Width"}, {api.OConcat, "concat", "", "v w", "v+w"}, {api.OExtract, "extract", "Params", "w", "h-l+1"},
		{api.ORepeat, "repeat", "Params", "w", "kw"}, {api.OZeroExt, "zero_extend", "Params", "w", "w+k"}, {api.OSignExt, "sign_extend", "Params", "w", "w+k"},
		{api.ORotL, "rotate_left", "Params", "w", "w"}, {api.ORotR, "rotate_right", "Params", "w", "w"},
		{api.OBvNot, "bvnot", "", "w", "w"}, {api.OBvNeg, "bvneg", "", "w", "w"}, {api.OBvComp, "bvcomp", "", "w w", "1"},
	}
	add := func(args, ret, heads string, ops ...api.Op) {
		for i, head := range strings.Fields(heads) {
			list = append(list, row{ops[i], head, "", args, ret})
		}
	}
	add("Int Int", "Int", "- * div mod", api.OSub, api.OMul, api.ODiv, api.OMod)
	add("Int Int", "Bool", "<= < >= >", api.OLe, api.OLt, api.OGe, api.OGt)
	add("w w", "w", "bvand bvor bvxor bvnand bvnor bvxnor bvadd bvsub bvmul bvudiv bvurem bvsdiv bvsrem bvsmod bvshl bvlshr bvashr",
		api.OBvAnd, api.OBvOr, api.OBvXor, api.OBvNand, api.OBvNor, api.OBvXnor, api.OBvAdd, api.OBvSub, api.OBvMul,
		api.OBvUdiv, api.OBvUrem, api.OBvSdiv, api.OBvSrem, api.OBvSmod, api.OBvShl, api.OBvLshr, api.OBvAshr)
	add("w w", "Bool", "bvult bvule bvugt bvuge bvslt bvsle bvsgt bvsge",
		api.OBvUlt, api.OBvUle, api.OBvUgt, api.OBvUge, api.OBvSlt, api.OBvSle, api.OBvSgt, api.OBvSge)
	return list
}

// model is a table by the chapter's words, without a thought of time.
type model struct {
	sig   api.Sig
	rows  map[api.Op]row
	nodes []api.Node
	sorts []api.Sort
	found map[string]int
}

func newModel(g api.Sig) *model {
	m := &model{sig: g, rows: map[api.Op]row{}, found: map[string]int{}}
	for _, r := range chapter() {
		m.rows[r.op] = r
	}
	return m
}

// add answers as Add should.
func (m *model) add(n api.Node) (int, api.Errno) {
	s, e := m.check(n)
	if e != api.OK {
		return 0, e
	}
	n = m.canonical(n)
	all := fmt.Sprintf("%#v", n)
	if i, ok := m.found[all]; ok {
		return i, api.OK
	}
	m.found[all] = len(m.nodes)
	m.nodes, m.sorts = append(m.nodes, n), append(m.sorts, s)
	return len(m.nodes) - 1, api.OK
}

// canonical is what is told of a node.
func (m *model) canonical(n api.Node) api.Node {
	own := api.Node{Op: n.Op}
	own.Args = append(own.Args, n.Args...)
	switch m.rows[n.Op].field {
	case "Name":
		own.Name = n.Name
	case "Int":
		own.Int.Mag = limbs(valueOf(n.Int.Mag))
		own.Int.Neg = n.Int.Neg && len(own.Int.Mag) > 0
	case "Bits":
		own.Bits = api.Bits{Width: n.Bits.Width, Val: limbs(valueOf(n.Bits.Val))}
	case "Sort":
		own.Sort = n.Sort
	case "Params":
		own.Params = append(own.Params, n.Params...)
	}
	return own
}

func valueOf(l api.Nat) *big.Int {
	v := new(big.Int)
	for _, limb := range slices.Backward(l) {
		v.Lsh(v, 64).Or(v, new(big.Int).SetUint64(limb))
	}
	return v
}

func limbs(v *big.Int) api.Nat {
	var l api.Nat
	for v = new(big.Int).Set(v); v.Sign() > 0; v.Rsh(v, 64) {
		l = append(l, new(big.Int).And(v, new(big.Int).SetUint64(^uint64(0))).Uint64())
	}
	return l
}

// declared is what a name is: its sorts and its own, for that Op.
func (m *model) declared(op api.Op, name string) ([]api.Sort, api.Sort, bool) {
	for _, f := range m.sig.Funs {
		if op == api.OFun && f.Name == name {
			return f.Args, f.Ret, true
		}
	}
	for _, d := range m.sig.Datas {
		for _, c := range d.Cons {
			var sorts []api.Sort
			for _, s := range c.Sels {
				sorts = append(sorts, s.Sort)
				if op == api.OSel && s.Name == name {
					return []api.Sort{data(d.Name)}, s.Sort, true
				}
			}
			if op == api.OCon && c.Name == name {
				return sorts, data(d.Name), true
			}
			if op == api.OIs && c.Name == name {
				return []api.Sort{data(d.Name)}, boolean, true
			}
		}
	}
	return nil, api.Sort{}, false
}

// check goes through the section Errors, one by one.
func (m *model) check(n api.Node) (api.Sort, api.Errno) {
	r, ok := m.rows[n.Op]
	if !ok {
		return api.Sort{}, api.ErrOp
	}
	sorts, ret, ok := m.declared(n.Op, n.Name)
	least, most := len(strings.Fields(r.args)), len(strings.Fields(r.args))
	if r.field == "Name" {
		if !ok {
			return api.Sort{}, api.ErrSymbol
		}
		least, most = len(sorts), len(sorts)
	} else if strings.HasSuffix(r.args, "*") {
		least, most = 2, 64
	}
	if len(n.Args) < least || len(n.Args) > most {
		return api.Sort{}, api.ErrArgs
	}
	for _, i := range n.Args {
		if i < 0 || i >= len(m.nodes) {
			return api.Sort{}, api.ErrArg
		}
	}
	if e := m.checkFields(n); e != api.OK {
		return api.Sort{}, e
	}
	if r.field == "Name" {
		for k, i := range n.Args {
			if !sort.Same(m.sorts[i], sorts[k]) {
				return api.Sort{}, api.ErrSorts
			}
		}
		return ret, api.OK
	}
	return m.checkSorts(n, r)
}

func (m *model) checkFields(n api.Node) api.Errno {
	many := map[api.Op]int{api.OExtract: 2, api.ORepeat: 1, api.OZeroExt: 1, api.OSignExt: 1, api.ORotL: 1, api.ORotR: 1}
	if want, ok := many[n.Op]; ok {
		if len(n.Params) != want {
			return api.ErrParam
		}
		for _, p := range n.Params {
			if p < 0 || p > 4096 {
				return api.ErrParam
			}
		}
		if n.Op == api.OExtract && n.Params[1] > n.Params[0] || n.Op == api.ORepeat && n.Params[0] == 0 {
			return api.ErrParam
		}
	}
	if n.Op == api.OConst && (n.Sort.Kind != api.KArray || sort.Check(n.Sort, m.sig) != api.OK) {
		return api.ErrParam
	}
	if n.Op == api.ONum && len(limbs(valueOf(n.Int.Mag))) > 4096 {
		return api.ErrBig
	}
	if n.Op == api.OBits && (n.Bits.Width < 1 || n.Bits.Width > 4096 || valueOf(n.Bits.Val).BitLen() > n.Bits.Width) {
		return api.ErrWidth
	}
	return api.OK
}

// checkSorts binds the sorts' letters from the left.
func (m *model) checkSorts(n api.Node, r row) (api.Sort, api.Errno) {
	bound := map[string]api.Sort{"Bool": boolean, "Int": integer}
	bind := func(letter string, s api.Sort) bool {
		if old, ok := bound[letter]; ok {
			return sort.Same(old, s)
		}
		bound[letter] = s
		switch letter {
		case "A":
			if s.Kind != api.KArray {
				return false
			}
			bound["s"], bound["t"] = s.Args[0], s.Args[1]
		case "v", "w":
			return s.Kind == api.KBits
		}
		return true
	}
	if n.Op == api.OConst {
		bind("A", n.Sort)
	}
	letters := strings.Fields(r.args)
	for k, i := range n.Args {
		letter := strings.TrimSuffix(letters[min(k, len(letters)-1)], "*")
		if !bind(letter, m.sorts[i]) {
			return api.Sort{}, api.ErrSorts
		}
	}
	if ret, ok := bound[r.ret]; ok && r.ret != "w" {
		return m.checkLinear(n, ret)
	}
	v, w := bound["v"].Width, bound["w"].Width
	switch r.ret {
	case "Width":
		w = n.Bits.Width
	case "1":
		w = 1
	case "v+w":
		w += v
	case "h-l+1":
		if n.Params[0] >= w {
			return api.Sort{}, api.ErrWidth
		}
		w = n.Params[0] - n.Params[1] + 1
	case "kw":
		w *= n.Params[0]
	case "w+k":
		w += n.Params[0]
	}
	if w > 4096 {
		return api.Sort{}, api.ErrWidth
	}
	return wide(w), api.OK
}

func (m *model) checkLinear(n api.Node, ret api.Sort) (api.Sort, api.Errno) {
	numeral := func(i int) (api.Int, bool) {
		if m.nodes[i].Op == api.OMinus {
			i = m.nodes[i].Args[0]
		}
		return m.nodes[i].Int, m.nodes[i].Op == api.ONum
	}
	switch n.Op {
	case api.OMul:
		_, one := numeral(n.Args[0])
		_, two := numeral(n.Args[1])
		if !one && !two {
			return api.Sort{}, api.ErrLinear
		}
	case api.ODiv, api.OMod:
		by, ok := numeral(n.Args[1])
		if !ok || len(by.Mag) == 0 {
			return api.Sort{}, api.ErrLinear
		}
	}
	return ret, api.OK
}

// text writes a term out; how long it is must be asked ahead.
func (m *model) text(i int) string {
	n := m.nodes[i]
	head := m.rows[n.Op].head
	switch n.Op {
	case api.OFun, api.OCon, api.OSel:
		head = sort.Quote(n.Name)
	case api.OIs:
		head = "(_ is " + sort.Quote(n.Name) + ")"
	case api.ONum:
		head = valueOf(n.Int.Mag).String()
		if n.Int.Neg {
			head = "(- " + head + ")"
		}
	case api.OBits:
		head = "#b" + fmt.Sprintf("%0*s", n.Bits.Width, valueOf(n.Bits.Val).Text(2))
	case api.OConst:
		s, _ := sort.Text(n.Sort)
		head = "(as const " + s + ")"
	case api.OExtract:
		head = fmt.Sprintf("(_ extract %d %d)", n.Params[0], n.Params[1])
	case api.ORepeat, api.OZeroExt, api.OSignExt, api.ORotL, api.ORotR:
		head = fmt.Sprintf("(_ %s %d)", head, n.Params[0])
	}
	if len(n.Args) == 0 {
		return head
	}
	text := "(" + head
	for _, arg := range n.Args {
		text += " " + m.text(arg)
	}
	return text + ")"
}

// length is that of the text.
func (m *model) lengths() []int {
	list := make([]int, len(m.nodes))
	for i, n := range m.nodes {
		if len(n.Args) == 0 {
			list[i] = len(m.text(i))
			continue
		}
		sum := len((&model{rows: m.rows, nodes: []api.Node{{Op: n.Op, Name: n.Name, Sort: n.Sort, Params: n.Params}}}).text(0)) + 2
		for _, arg := range n.Args {
			sum += 1 + list[arg]
		}
		list[i] = min(sum, 1<<40)
	}
	return list
}

// under is all of which the roots are made.
func (m *model) under(roots ...int) []int {
	in := make([]bool, len(m.nodes))
	for _, i := range roots {
		if i >= 0 && i < len(in) {
			in[i] = true
		}
	}
	var list []int
	for i := len(in) - 1; i >= 0; i-- {
		if in[i] {
			list = append(list, i)
			for _, arg := range m.nodes[i].Args {
				in[arg] = true
			}
		}
	}
	slices.Reverse(list)
	return list
}
