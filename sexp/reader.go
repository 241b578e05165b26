package sexp

import (
	"tribunal/api"
	"tribunal/lexis"
)

// reader makes nodes of tokens.
type reader struct {
	nodes []api.Sexp
	free  []int             // the nodes that have ended and are in no list that has
	open  []func() api.Sexp // the lists that have begun, the innermost last: each takes what stands in it and is the node
}

func (r *reader) take(t api.Token) api.Errno {
	if _, e := lexis.Write(t); e != api.OK {
		return api.ErrShape
	}
	switch t.Kind {
	case api.TOpen:
		return r.begin(t)
	case api.TClose:
		return r.end()
	}
	r.put(api.Sexp{Kind: api.SAtom, Token: t})
	return api.OK
}

// begin opens a list.
func (r *reader) begin(t api.Token) api.Errno {
	if len(r.open) == api.MaxDeep {
		return api.ErrDeep
	}
	from := len(r.free)
	r.open = append(r.open, func() api.Sexp { return api.Sexp{Kind: api.SList, Token: t, Kids: r.cut(from)} })
	return api.OK
}

// cut takes off the stack what was put on it from a place on. The third index leaves no room, so that append lays it in new memory.
func (r *reader) cut(from int) []int {
	off := append(r.free[from:from:from], r.free[from:]...)
	r.free = r.free[:from]
	return off
}

// end closes the innermost list.
func (r *reader) end() api.Errno {
	last := len(r.open) - 1
	if last < 0 {
		return api.ErrClose
	}
	list := r.open[last]
	r.open = r.open[:last]
	r.put(list())
	return api.OK
}

// put gives a node that has ended its number.
func (r *reader) put(n api.Sexp) {
	r.free = append(r.free, len(r.nodes))
	r.nodes = append(r.nodes, n)
}
