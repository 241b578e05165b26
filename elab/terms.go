package elab

import (
	"strings"

	"tribunal/api"
	"tribunal/nat"
	"tribunal/sort"
)

// term is what an s-expression means as a term.
func (r *run) term(n int) int {
	r.step(n)
	if r.nodes[n].Kind == api.SAtom {
		return r.atom(n)
	}
	kids := r.kids(n)
	if len(kids) == 0 {
		r.fail(n, api.ErrForm)
	}
	switch word := r.bare(kids[0]); {
	case word == "let":
		return r.let(n, kids)
	case word == "!":
		return r.noted(n, kids)
	case word == "as":
		return r.ascribed(n, kids)
	case word == "_":
		return r.numbered(n, kids)
	case reserved(word):
		r.fail(n, api.ErrForm)
	}
	return r.application(n, kids)
}

func (r *run) atom(n int) int {
	switch t := r.nodes[n].Token; t.Kind {
	case api.TNumeral:
		return r.numeral(n)
	case api.THex:
		return r.vector(n, 4*len(t.Text), t.Text, 16)
	case api.TBinary:
		return r.vector(n, len(t.Text), t.Text, 2)
	case api.TSymbol:
		return r.word(n)
	}
	r.fail(n, api.ErrForm)
	return 0
}

func (r *run) numeral(n int) int {
	digits := r.written(n)
	if i, known := r.numerals[digits]; known {
		return i
	}
	number, e := nat.Parse(digits, 10)
	if e != api.OK {
		r.fail(n, e)
	}
	i := r.add(n, api.Node{Op: api.ONum, Int: api.Int{Mag: number}})
	r.numerals[digits] = i
	return i
}

// vector is an OBits. Digits that are too many for a number are too many for any width.
func (r *run) vector(n, width int, digits string, base int) int {
	number, e := nat.Parse(digits, base)
	if e != api.OK {
		r.fail(n, api.ErrWidth)
	}
	return r.add(n, api.Node{Op: api.OBits, Bits: api.Bits{Width: width, Val: number}})
}

// word is what a word means where it doesn't stand at a head.
func (r *run) word(n int) int {
	if reserved(r.bare(n)) {
		r.fail(n, api.ErrForm)
	}
	name := r.written(n)
	if in := r.terms[name]; in != nil {
		return in.term
	}
	is := r.names.symbols.means[name]
	switch {
	case is == nil:
		r.fail(n, api.ErrUnbound)
	case is.takes > 0:
		r.fail(n, api.ErrArgs)
	}
	return r.applied(n, is, nil)
}

// let binds what its terms mean ahead of it.
func (r *run) let(n int, kids []int) int {
	if len(kids) != 3 || len(r.kids(kids[1])) == 0 {
		r.fail(n, api.ErrForm)
	}
	pairs := r.kids(kids[1])
	r.checkPairs(pairs)
	terms := make([]int, len(pairs))
	for i, p := range pairs {
		terms[i] = r.term(r.kids(p)[1])
	}
	for i, p := range pairs {
		r.bind(r.written(r.kids(p)[0]), terms[i])
	}
	whole := r.term(kids[2])
	for _, p := range pairs {
		r.unbind(r.written(r.kids(p)[0]))
	}
	return whole
}

// checkPairs looks at all bindings for one kind of fault ahead of the next.
func (r *run) checkPairs(pairs []int) {
	for _, p := range pairs {
		if kids := r.kids(p); len(kids) != 2 || !r.isWord(kids[0]) {
			r.fail(p, api.ErrForm)
		}
	}
	for _, p := range pairs {
		if word := r.kids(p)[0]; !sort.Name(r.written(word)) {
			r.fail(word, api.ErrName)
		}
	}
	met := map[string]int{}
	for _, p := range pairs {
		word := r.kids(p)[0]
		met[r.written(word)]++
		if met[r.written(word)] > 1 {
			r.fail(word, api.ErrTwice)
		}
	}
}

// noted is a term to which something is noted.
func (r *run) noted(n int, kids []int) int {
	if len(kids) < 3 || !r.isAtom(kids[2], api.TKeyword) {
		r.fail(n, api.ErrForm)
	}
	return r.term(kids[1])
}

// ascribed is a word of which the sort is said.
func (r *run) ascribed(n int, kids []int) int {
	if len(kids) != 3 || !r.isWord(kids[1]) {
		r.fail(n, api.ErrForm)
	}
	whole := r.word(kids[1])
	r.ofSort(n, whole, r.sort(kids[2]))
	return whole
}

// ofSort asks that a term has a sort.
func (r *run) ofSort(n, i int, want api.Sort) {
	if s, _ := r.table.Sort(i); !sort.Same(s, want) {
		r.fail(n, api.ErrSorts)
	}
}

// numbered is an OBits of which number and width are said.
func (r *run) numbered(n int, kids []int) int {
	if len(kids) != 3 || !r.isWord(kids[1]) || !r.isAtom(kids[2], api.TNumeral) {
		r.fail(n, api.ErrForm)
	}
	digits, ok := strings.CutPrefix(r.written(kids[1]), "bv")
	if !ok || !isNumeral(digits) {
		r.fail(n, api.ErrForm)
	}
	width, _ := small(r.written(kids[2])) // 0, if it is too great: neither may be
	return r.vector(n, width, digits, 10)
}

func (r *run) add(n int, node api.Node) int {
	i, e := r.table.Add(node)
	if e != api.OK {
		r.fail(n, e)
	}
	return i
}
