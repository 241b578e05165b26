package rewrite

import "tribunal/api"

// arrays is rule 10.
func (s *simplifier) arrays(n node) int {
	switch n.Op {
	case api.OSelect:
		return s.selection(n, s.at(n.Args[0]), n.Args[1])
	case api.OStore:
		return s.storing(n, s.at(n.Args[0]), n.Args[1], n.Args[2])
	}
	return n.number
}

func (s *simplifier) selection(n, array node, at int) int {
	switch array.Op {
	case api.OConst:
		return array.Args[0]
	case api.OStore:
		switch there := array.Args[1]; {
		case there == at:
			return array.Args[2]
		case isLiteral(s.at(there).Op) && isLiteral(s.at(at).Op):
			return s.of(api.OSelect, array.Args[0], at)
		}
	}
	return n.number
}

func (s *simplifier) storing(n, array node, at, val int) int {
	switch {
	case array.Op == api.OStore && array.Args[1] == at:
		return s.of(api.OStore, array.Args[0], at, val)
	case array.Op == api.OConst && array.Args[0] == val:
		return array.number
	}
	if is := s.at(val); is.Op == api.OSelect && is.Args[0] == array.number && is.Args[1] == at {
		return array.number
	}
	return n.number
}

// shapes are what rules ask of datatypes.
type shapes struct {
	selectors map[string]selector
	alone     map[string]struct{} // the constructors that are the only ones of their datatypes
}

// selector is the constructor that has it, and which of that one's arguments it selects.
type selector struct {
	con   string
	place int
}

func newShapes(g api.Sig) *shapes {
	h := &shapes{map[string]selector{}, map[string]struct{}{}}
	for _, data := range g.Datas {
		for _, con := range data.Cons {
			for place, sel := range con.Sels {
				h.selectors[sel.Name] = selector{con.Name, place}
			}
			if len(data.Cons) == 1 {
				h.alone[con.Name] = struct{}{}
			}
		}
	}
	return h
}

// trees is rule 11.
func (s *simplifier) trees(n node) int {
	if n.Op != api.OSel && n.Op != api.OIs {
		return n.number
	}
	if s.shapes == nil {
		s.shapes = newShapes(s.Sig())
	}
	tree := s.at(n.Args[0])
	if n.Op == api.OIs {
		return s.question(n, tree)
	}
	if sel := s.shapes.selectors[n.Name]; tree.Op == api.OCon && tree.Name == sel.con {
		return tree.Args[sel.place]
	}
	return n.number
}

func (s *simplifier) question(n, tree node) int {
	_, alone := s.shapes.alone[n.Name]
	switch {
	case alone:
		return s.truth(true)
	case tree.Op == api.OCon:
		return s.truth(tree.Name == n.Name)
	}
	return n.number
}
