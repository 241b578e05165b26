package elab

import "tribunal/api"

// application is what a head makes of the terms behind it.
func (r *run) application(n int, kids []int) int {
	is, want := r.head(kids[0])
	args := make([]int, 0, len(kids)-1)
	for _, k := range kids[1:] {
		args = append(args, r.term(k))
	}
	whole := r.applied(n, is, args)
	if want != nil {
		r.ofSort(n, whole, *want)
	}
	return whole
}

// head is what stands at a head, and the sort that the whole must have, if it says one.
func (r *run) head(n int) (*symbol, *api.Sort) {
	if r.isWord(n) {
		return r.function(n, n), nil
	}
	kids := r.kids(n)
	if len(kids) == 0 {
		r.fail(n, api.ErrForm)
	}
	switch r.bare(kids[0]) {
	case "as":
		return r.ascribedHead(n, kids)
	case "_":
		return r.numberedHead(n, kids), nil
	}
	r.fail(n, api.ErrForm)
	return nil, nil
}

// function is what a word means at a head.
func (r *run) function(head, word int) *symbol {
	if reserved(r.bare(word)) {
		r.fail(head, api.ErrForm)
	}
	name := r.written(word)
	is := r.names.symbols.means[name]
	if r.terms[name] != nil || is == nil || is.Op == api.OTrue || is.Op == api.OFalse {
		r.fail(head, api.ErrUnbound)
	}
	return is
}

func (r *run) ascribedHead(n int, kids []int) (*symbol, *api.Sort) {
	if len(kids) != 3 || !r.isWord(kids[1]) {
		r.fail(n, api.ErrForm)
	}
	if r.written(kids[1]) == "const" {
		return &symbol{Node: api.Node{Op: api.OConst, Sort: r.sortInHead(n, kids[2])}}, nil
	}
	is := r.function(n, kids[1])
	want := r.sortInHead(n, kids[2])
	return is, &want
}

// sortInHead is a sort all of whose faults are told at the head in which it stands.
func (r *run) sortInHead(head, n int) api.Sort {
	outer := r.pin
	r.pin = r.place(head)
	s := r.sort(n)
	r.pin = outer
	return s
}

// numberedHead is an operator with its parameters, or one that asks for a constructor.
func (r *run) numberedHead(n int, kids []int) *symbol {
	if len(kids) < 3 || !r.isWord(kids[1]) {
		r.fail(n, api.ErrForm)
	}
	var op api.Op
	if is := r.names.symbols.means[r.written(kids[1])]; is != nil {
		op = is.Op
	}
	rest := kids[2:]
	switch {
	case op == api.OIs && len(rest) == 1 && r.isWord(rest[0]):
		return &symbol{Node: api.Node{Op: op, Name: r.written(rest[0])}}
	case len(rest) != paramsOf(op) || !r.allNumerals(rest):
		r.fail(n, api.ErrForm)
	}
	return &symbol{Node: api.Node{Op: op, Params: r.params(n, rest)}}
}

// paramsOf is how many parameters a head of the operator has.
func paramsOf(op api.Op) int {
	switch op {
	case api.OExtract:
		return 2
	case api.ORepeat, api.OZeroExt, api.OSignExt, api.ORotL, api.ORotR:
		return 1
	}
	return 0
}

func (r *run) allNumerals(list []int) bool {
	for _, k := range list {
		if !r.isAtom(k, api.TNumeral) {
			return false
		}
	}
	return true
}

func (r *run) params(head int, list []int) []int {
	var params []int
	for _, k := range list {
		p, ok := small(r.written(k))
		if !ok {
			r.fail(head, api.ErrParam)
		}
		params = append(params, p)
	}
	return params
}

// applied is what a symbol makes of terms.
func (r *run) applied(n int, is *symbol, args []int) int {
	if is.definition != nil {
		return r.called(n, is.definition, args)
	}
	node := is.Node
	switch node.Op {
	case api.OImplies:
		return r.fromRight(n, node.Op, args)
	case api.OEq, api.OLe, api.OLt, api.OGe, api.OGt:
		return r.neighbours(n, node.Op, args)
	case api.OSub:
		if len(args) == 1 {
			return r.made(n, api.OMinus, args...)
		}
		fallthrough
	case api.OXor, api.OMul, api.ODiv, api.OConcat, api.OBvAnd, api.OBvOr, api.OBvXor, api.OBvAdd, api.OBvMul:
		return r.fromLeft(n, node.Op, args)
	}
	node.Args = args
	return r.add(n, node)
}

func (r *run) made(n int, op api.Op, args ...int) int {
	return r.add(n, api.Node{Op: op, Args: args})
}

// called is a body with its parameters alone bound.
func (r *run) called(n int, d *definition, args []int) int {
	if len(args) != len(d.params) {
		r.fail(n, api.ErrArgs)
	}
	for i, arg := range args {
		r.ofSort(n, arg, d.sorts[i])
	}
	var whole int
	r.within(n, d, func(root int) {
		for i, p := range d.params {
			r.bind(p, args[i])
		}
		whole = r.term(root)
	})
	return whole
}

func (r *run) twoOrMore(n int, args []int) {
	if len(args) < 2 {
		r.fail(n, api.ErrArgs)
	}
}

func (r *run) fromLeft(n int, op api.Op, args []int) int {
	r.twoOrMore(n, args)
	whole := args[0]
	for _, arg := range args[1:] {
		whole = r.made(n, op, whole, arg)
	}
	return whole
}

func (r *run) fromRight(n int, op api.Op, args []int) int {
	r.twoOrMore(n, args)
	last := len(args) - 1
	whole := args[last]
	for i := last - 1; i >= 0; i-- {
		whole = r.made(n, op, args[i], whole)
	}
	return whole
}

func (r *run) neighbours(n int, op api.Op, args []int) int {
	r.twoOrMore(n, args)
	var pairs []int
	for i, arg := range args[1:] {
		pairs = append(pairs, r.made(n, op, args[i], arg))
	}
	if len(pairs) == 1 {
		return pairs[0]
	}
	return r.made(n, api.OAnd, pairs...)
}
