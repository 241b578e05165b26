package term

import (
	"strconv"
	"strings"

	"tribunal/api"
	"tribunal/nat"
	"tribunal/sort"
	"tribunal/whole"
)

// Text writes a term.
func (t *Table) Text(i int) (string, api.Errno) {
	switch {
	case !t.made():
		return "", api.ErrNil
	case !t.has(i):
		return "", api.ErrArg
	}
	w := writer{Table: t, spans: map[int]span{}}
	if !w.write(i) {
		return "", api.ErrLong
	}
	return string(w.text), api.OK
}

// writer writes a term out at each place. What is written already is copied from where it stands, so that no term is gone through twice.
type writer struct {
	*Table
	text  []byte
	spans map[int]span
	open  []frame // the applications that are not closed yet: a stack, since terms may be as deep as a table is long
}

// span is where a term's text begins and ends.
type span struct{ from, to int }

// frame is an application, where its text begins, and how many of its arguments are written.
type frame struct{ term, from, done int }

// write gives up, and tells so, as soon as the text is too long.
func (w *writer) write(root int) bool {
	w.begin(root)
	for len(w.open) > 0 && len(w.text) <= api.MaxText {
		top := &w.open[len(w.open)-1]
		args := w.records[top.term].Args
		if top.done == len(args) {
			w.end(*top)
			continue
		}
		top.done++
		w.text = append(w.text, ' ')
		w.begin(args[top.done-1])
	}
	return len(w.text) <= api.MaxText
}

func (w *writer) begin(i int) {
	if s, ok := w.spans[i]; ok {
		w.text = append(w.text, w.text[s.from:s.to]...)
		return
	}
	r := w.records[i]
	from := len(w.text)
	if len(r.Args) > 0 {
		w.text = append(w.text, '(')
		w.open = append(w.open, frame{term: i, from: from})
	}
	w.text = append(w.text, r.head()...)
	if len(r.Args) == 0 {
		w.spans[i] = span{from, len(w.text)}
	}
}

func (w *writer) end(f frame) {
	w.open = w.open[:len(w.open)-1]
	w.text = append(w.text, ')')
	w.spans[f.term] = span{f.from, len(w.text)}
}

// head is what stands ahead of the arguments.
func (r *record) head() string {
	switch r.Op {
	case api.OFun, api.OCon, api.OSel:
		return sort.Quote(r.Name)
	case api.OIs:
		return "(_ is " + sort.Quote(r.Name) + ")"
	case api.ONum:
		return numberText(r.Int)
	case api.OBits:
		digits, _ := nat.Text(r.Bits.Val, 2)
		return "#b" + strings.Repeat("0", r.Bits.Width-max(nat.Len(r.Bits.Val), 1)) + digits
	case api.OConst:
		text, _ := sort.Text(r.Sort)
		return "(as const " + text + ")"
	case api.OExtract, api.ORepeat, api.OZeroExt, api.OSignExt, api.ORotL, api.ORotR:
		text := "(_ " + heads[r.Op]
		for _, p := range r.Params {
			text += " " + strconv.Itoa(p)
		}
		return text + ")"
	}
	return heads[r.Op]
}

func numberText(n api.Int) string {
	digits, _ := whole.Print(whole.Abs(n))
	if n.Neg {
		return "(- " + digits + ")"
	}
	return digits
}

// heads are the words of SMT-LIB for Ops.
var heads = [...]string{
	api.OTrue: "true", api.OFalse: "false", api.ONot: "not", api.OAnd: "and", api.OOr: "or", api.OXor: "xor", api.OImplies: "=>",
	api.OEq: "=", api.ODistinct: "distinct", api.OIte: "ite",
	api.OMinus: "-", api.OAdd: "+", api.OSub: "-", api.OMul: "*", api.ODiv: "div", api.OMod: "mod", api.OAbs: "abs",
	api.OLe: "<=", api.OLt: "<", api.OGe: ">=", api.OGt: ">", api.OSelect: "select", api.OStore: "store",
	api.OConcat: "concat", api.OExtract: "extract", api.ORepeat: "repeat", api.OZeroExt: "zero_extend", api.OSignExt: "sign_extend",
	api.ORotL: "rotate_left", api.ORotR: "rotate_right",
	api.OBvNot: "bvnot", api.OBvNeg: "bvneg", api.OBvAnd: "bvand", api.OBvOr: "bvor", api.OBvXor: "bvxor",
	api.OBvNand: "bvnand", api.OBvNor: "bvnor", api.OBvXnor: "bvxnor", api.OBvComp: "bvcomp",
	api.OBvAdd: "bvadd", api.OBvSub: "bvsub", api.OBvMul: "bvmul", api.OBvUdiv: "bvudiv", api.OBvUrem: "bvurem",
	api.OBvSdiv: "bvsdiv", api.OBvSrem: "bvsrem", api.OBvSmod: "bvsmod", api.OBvShl: "bvshl", api.OBvLshr: "bvlshr", api.OBvAshr: "bvashr",
	api.OBvUlt: "bvult", api.OBvUle: "bvule", api.OBvUgt: "bvugt", api.OBvUge: "bvuge",
	api.OBvSlt: "bvslt", api.OBvSle: "bvsle", api.OBvSgt: "bvsgt", api.OBvSge: "bvsge",
}
