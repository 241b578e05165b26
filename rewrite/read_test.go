package rewrite_test

import (
	"math/big"
	"slices"
	"strconv"
	"strings"

	"tribunal/api"
)

// sx is an s-expression: an atom, or a list.
type sx struct {
	atom string
	list []sx
}

func (x sx) isList() bool { return x.atom == "" }

// parse is the one s-expression of a text.
func parse(text string) sx {
	text = strings.NewReplacer("(", " ( ", ")", " ) ").Replace(text)
	words := strings.Fields(text)
	var one func() sx
	one = func() sx {
		word := words[0]
		words = words[1:]
		if word != "(" {
			return sx{atom: word}
		}
		var x sx
		for words[0] != ")" {
			x.list = append(x.list, one())
		}
		words = words[1:]
		return x
	}
	x := one()
	if len(words) > 0 {
		panic("more than one: " + text)
	}
	return x
}

// read is the term of a text. Each name stands for one Op; -5 is an ONum, and (- 5) an OMinus.
func (w *world) read(text string) int {
	w.Helper()
	return w.term(parse(text))
}

func (w *world) term(x sx) int {
	w.Helper()
	if !x.isList() {
		return w.put(w.node(x, 0))
	}
	n := w.node(x.list[0], len(x.list)-1)
	for _, arg := range x.list[1:] {
		n.Args = append(n.Args, w.term(arg))
	}
	return w.put(n)
}

// node is what a head with so many arguments makes of them.
func (w *world) node(head sx, many int) api.Node {
	w.Helper()
	if head.isList() {
		return w.listed(head.list)
	}
	if n, ok := new(big.Int).SetString(head.atom, 10); ok {
		return api.Node{Op: api.ONum, Int: intOf(n)}
	}
	if digits, ok := strings.CutPrefix(head.atom, "#b"); ok {
		n, _ := new(big.Int).SetString(digits, 2)
		return api.Node{Op: api.OBits, Bits: api.Bits{Width: len(digits), Val: limbsOf(n)}}
	}
	if op := opOf(head.atom, many); op != 0 {
		return api.Node{Op: op}
	}
	n := api.Node{Op: api.OFun, Name: head.atom}
	for _, data := range w.Sig().Datas {
		for _, c := range data.Cons {
			if c.Name == n.Name {
				n.Op = api.OCon
			}
			if slices.ContainsFunc(c.Sels, func(s api.Sel) bool { return s.Name == n.Name }) {
				n.Op = api.OSel
			}
		}
	}
	return n
}

func (w *world) listed(list []sx) api.Node {
	if list[0].atom == "as" {
		return api.Node{Op: api.OConst, Sort: w.sort(list[2])}
	}
	if list[1].atom == "is" {
		return api.Node{Op: api.OIs, Name: list[2].atom}
	}
	n := api.Node{Op: opOf(list[1].atom, 1)}
	for _, x := range list[2:] {
		p, _ := strconv.Atoi(x.atom)
		n.Params = append(n.Params, p)
	}
	return n
}

func (w *world) sort(x sx) api.Sort {
	switch {
	case x.isList() && x.list[0].atom == "Array":
		return array(w.sort(x.list[1]), w.sort(x.list[2]))
	case x.isList():
		n, _ := strconv.Atoi(x.list[2].atom)
		return wide(n)
	case x.atom == "Bool":
		return boolean
	case x.atom == "Int":
		return integer
	case slices.Contains(w.Sig().Users, x.atom):
		return user(x.atom)
	}
	return data(x.atom)
}

// opOf is the Op with that head and so many arguments; 0, if there is none.
func opOf(head string, many int) api.Op {
	if head == "-" && many == 1 {
		return api.OMinus
	}
	for op, name := range names() {
		if name == head && op != api.OMinus {
			return op
		}
	}
	return 0
}
