package eval

import (
	"tribunal/api"
	"tribunal/term"
)

// evaluator is a table under an interpretation.
type evaluator struct {
	*term.Table
	*interpretation
	groups []group
	nodes  map[int]*node // what terms are, as long as that is needed
	needs  map[int]int   // how many still need a term: terms of which it is an argument, and roots that it is
}

// step is a term whose arguments are known.
type step struct {
	api.Node
	args []*node
}

// evaluated is what each root is.
func evaluated(t *term.Table, in api.Interp, roots []int) ([]*node, api.Errno) {
	if _, e := t.Text(-1); e == api.ErrNil { // a table that was made says of -1 that it is no term
		return nil, e
	}
	for _, i := range roots {
		if _, ok := t.Sort(i); !ok {
			return nil, api.ErrArg
		}
	}
	m, e := enter(t.Sig(), in)
	if e != api.OK {
		return nil, e
	}
	v := &evaluator{Table: t, interpretation: m, nodes: map[int]*node{}, needs: map[int]int{}}
	v.groups = v.operators()
	return v.run(roots)
}

func (v *evaluator) run(roots []int) ([]*node, api.Errno) {
	below := v.Below(roots...)
	v.count(below, roots)
	for _, i := range below {
		if e := v.work(i); e != api.OK {
			return nil, e
		}
	}
	list := make([]*node, len(roots))
	for k, i := range roots {
		list[k] = v.nodes[i]
	}
	return list, api.OK
}

// count finds how many need each term.
func (v *evaluator) count(below, roots []int) {
	for _, i := range roots {
		v.needs[i]++
	}
	for _, i := range below {
		n, _ := v.Node(i)
		for _, arg := range n.Args {
			v.needs[arg]++
		}
	}
}

// work finds what a term is, and lets those of its arguments go that nobody needs any more: they may be great.
func (v *evaluator) work(i int) api.Errno {
	n, _ := v.Node(i)
	s := step{n, make([]*node, len(n.Args))}
	for k, arg := range n.Args {
		s.args[k] = v.nodes[arg]
	}
	is, e := v.is(s)
	switch {
	case e != api.OK:
		return e
	case is.parts > api.MaxParts:
		return api.ErrMany
	}
	v.nodes[i] = is
	for _, arg := range n.Args {
		v.needs[arg]--
		if v.needs[arg] == 0 {
			delete(v.nodes, arg)
		}
	}
	return api.OK
}

// is asks the group of the term's operator; a table has no term of another one.
func (v *evaluator) is(s step) (*node, api.Errno) {
	for _, g := range v.groups {
		if s.Op <= g.last {
			return g.is(s)
		}
	}
	return nil, api.ErrOp
}
