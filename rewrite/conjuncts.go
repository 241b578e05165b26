package rewrite

import (
	"slices"

	"tribunal/api"
)

// claim is that a Bool term is true, or that it is denied.
type claim struct {
	term   int
	denied bool
}

// conjuncts are the terms that must all be true where one is; OFalse alone, if they can't at sight.
func (b *builder) conjuncts(root int) []int {
	claims, ok := b.claims(root)
	if !ok {
		return []int{b.truth(false)}
	}
	var list []int
	for _, c := range claims {
		if c.denied {
			c.term = b.not(c.term)
		}
		list = append(list, c.term)
	}
	return list
}

// claims are those that stand under OAnds alone, from the left, each once; false, if one is that false is true, or denies another one.
func (b *builder) claims(root int) ([]claim, bool) {
	var list []claim
	met, listed := map[claim]struct{}{}, map[claim]struct{}{}
	open := []claim{{root, false}}
	for len(open) > 0 {
		c := open[len(open)-1]
		open = open[:len(open)-1]
		if _, twice := met[c]; twice {
			continue
		}
		met[c] = struct{}{}
		n := b.at(c.term)
		if parts, is := c.parts(n); is {
			open = append(open, parts...)
			continue
		}
		if _, both := listed[claim{c.term, !c.denied}]; both || isLiteral(n.Op) {
			return nil, false
		}
		listed[c] = struct{}{}
		list = append(list, c)
	}
	return list, true
}

// parts are the claims that one comes to, the last one first, if there is more to it than its term.
func (c claim) parts(n node) ([]claim, bool) {
	switch n.Op {
	case api.OTrue, api.OFalse:
		return nil, c.denied == (n.Op == api.OFalse)
	case api.ONot:
		return []claim{{n.Args[0], !c.denied}}, true
	case api.OAnd, api.OOr:
		if c.denied != (n.Op == api.OOr) {
			return nil, false
		}
		var list []claim
		for _, i := range slices.Backward(n.Args) {
			list = append(list, claim{i, c.denied})
		}
		return list, true
	}
	return nil, false
}
