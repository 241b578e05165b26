package rewrite

import "tribunal/api"

// mostApart is how many arguments of an ODistinct are told pair by pair.
const mostApart = 11

// equation is rule 6.
func (s *simplifier) equation(n node) int {
	if n.Op != api.OEq {
		return n.number
	}
	a, b := s.at(n.Args[0]), s.at(n.Args[1])
	if isLiteral(a.Op) {
		a, b = b, a
	}
	switch {
	case a.number == b.number:
		return s.truth(true)
	case b.Op == api.OTrue:
		return a.number
	case b.Op == api.OFalse:
		return s.negation(a.number)
	case opposite(a, b):
		return s.truth(false)
	case a.Op == api.OCon && b.Op == api.OCon:
		return s.sameTrees(a, b)
	}
	return n.number
}

// sameTrees is the equation of two unlike trees.
func (s *simplifier) sameTrees(a, b node) int {
	if a.Name != b.Name {
		return s.truth(false)
	}
	var each []int
	for k, arg := range a.Args {
		each = append(each, s.of(api.OEq, arg, b.Args[k]))
	}
	if len(each) == 1 {
		return each[0]
	}
	return s.of(api.OAnd, each...)
}

// distinction is rule 7.
func (s *simplifier) distinction(n node) int {
	switch {
	case n.Op != api.ODistinct:
		return n.number
	case twice(n.Args):
		return s.truth(false)
	case len(n.Args) == 2:
		return s.unlike(n.Args)[0]
	case len(n.Args) <= mostApart:
		return s.of(api.OAnd, s.unlike(n.Args)...)
	}
	return n.number
}
