package rewrite

import (
	"slices"

	"tribunal/api"
)

// doubleNot is rule 2.
func (s *simplifier) doubleNot(n node) int {
	if n.Op != api.ONot {
		return n.number
	}
	if arg := s.at(n.Args[0]); arg.Op == api.ONot {
		return arg.Args[0]
	}
	return n.number
}

// junction is rule 3, of OAnd and of OOr. What is idle says nothing among the others; what is strong makes all the same.
func (s *simplifier) junction(n node) int {
	idle, strong := api.OTrue, api.OFalse
	switch n.Op {
	case api.OAnd:
	case api.OOr:
		idle, strong = strong, idle
	default:
		return n.number
	}
	var rest, denied []int
	for _, arg := range s.flat(n) {
		switch arg.Op {
		case strong:
			return arg.number
		case idle:
			continue
		case api.ONot:
			denied = append(denied, arg.Args[0])
		}
		if !slices.Contains(rest, arg.number) {
			rest = append(rest, arg.number)
		}
	}
	switch {
	case slices.ContainsFunc(denied, func(i int) bool { return slices.Contains(rest, i) }):
		return s.of(strong)
	case len(rest) == 0:
		return s.of(idle)
	case len(rest) == 1:
		return rest[0]
	}
	return s.with(n, rest).number
}

// flat is the arguments, with those of the same operator among them in its place, if that is not too many.
func (s *simplifier) flat(n node) []node {
	args := s.all(n.Args)
	var list []node
	for _, arg := range args {
		if arg.Op == n.Op {
			list = append(list, s.all(arg.Args)...)
		} else {
			list = append(list, arg)
		}
	}
	if len(list) > api.MaxArgs {
		return args
	}
	return list
}

// opposite tells whether one of two is the ONot of the other.
func opposite(a, b node) bool {
	return a.Op == api.ONot && a.Args[0] == b.number || b.Op == api.ONot && b.Args[0] == a.number
}

// connective is rule 4, of OXor and of OImplies.
func (s *simplifier) connective(n node) int {
	switch n.Op {
	case api.OXor:
		return s.exclusive(n, s.at(n.Args[0]), s.at(n.Args[1]))
	case api.OImplies:
		return s.of(api.OOr, s.negation(n.Args[0]), n.Args[1])
	}
	return n.number
}

func (s *simplifier) exclusive(n, a, b node) int {
	if isLiteral(a.Op) {
		a, b = b, a
	}
	switch {
	case b.Op == api.OTrue:
		return s.negation(a.number)
	case b.Op == api.OFalse:
		return a.number
	case a.number == b.number:
		return s.truth(false)
	case opposite(a, b):
		return s.truth(true)
	}
	return n.number
}

// choice is rule 5.
func (s *simplifier) choice(n node) int {
	if n.Op != api.OIte {
		return n.number
	}
	c, a, b := n.Args[0], n.Args[1], n.Args[2]
	switch is := s.at(c); {
	case is.Op == api.OTrue || a == b:
		return a
	case is.Op == api.OFalse:
		return b
	case is.Op == api.ONot:
		return s.of(api.OIte, is.Args[0], b, a)
	case s.at(a).Op == api.OTrue:
		return s.of(api.OOr, c, b)
	case s.at(a).Op == api.OFalse:
		return s.of(api.OAnd, s.negation(c), b)
	case s.at(b).Op == api.OTrue:
		return s.of(api.OOr, s.negation(c), a)
	case s.at(b).Op == api.OFalse:
		return s.of(api.OAnd, c, a)
	}
	return n.number
}
