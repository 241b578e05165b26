package rewrite

import (
	"tribunal/api"
	"tribunal/whole"
)

// noTerm stands in a part where it has a number alone.
const noTerm = -1

// part is one of a sum: a number of times a term.
type part struct {
	by   api.Int
	term int
}

// tally is parts, those of one term together.
type tally struct {
	terms []int // in the order in which they came
	by    map[int][]api.Int
}

func (t *tally) add(p part) {
	if len(t.by[p.term]) == 0 {
		t.terms = append(t.terms, p.term)
	}
	t.by[p.term] = append(t.by[p.term], p.by)
}

// parts are so many times those of the tally, without those of the number 0, the number alone at the end; false, if a number is too long.
func (t *tally) parts(times api.Int) ([]part, bool) {
	if whole.Sign(times) == 0 {
		return nil, true
	}
	var list, alone []part
	for _, i := range t.terms {
		sum, e := whole.Sum(t.by[i]...)
		if e != api.OK {
			return nil, false
		}
		by, e := whole.Mul(times, sum)
		switch {
		case e != api.OK:
			return nil, false
		case whole.Sign(by) == 0:
		case i == noTerm:
			alone = []part{{by, i}}
		default:
			list = append(list, part{by, i})
		}
	}
	return append(list, alone...), true
}

// sum is rule 8.
func (s *simplifier) sum(n node) int {
	t := &tally{by: map[int][]api.Int{}}
	times := whole.Of(1)
	switch n.Op {
	case api.OMul:
		many, of := s.at(n.Args[0]), n.Args[1]
		if many.Op != api.ONum {
			many, of = s.at(of), many.number
		}
		times = many.Int
		s.count(t, of, false)
	case api.OMinus:
		s.count(t, n.Args[0], true)
	case api.OAdd, api.OSub:
		for k, i := range n.Args {
			s.count(t, i, n.Op == api.OSub && k == 1)
		}
	default:
		return n.number
	}
	list, ok := t.parts(times)
	if !ok || len(list) > api.MaxArgs {
		return n.number
	}
	return s.written(list)
}

// count adds the parts of a term to a tally, turned or not.
func (s *simplifier) count(t *tally, i int, turned bool) {
	list := []node{s.at(i)}
	if list[0].Op == api.OAdd {
		list = s.all(list[0].Args)
	}
	for _, n := range list {
		p := s.part(n)
		if turned {
			p.by = whole.Neg(p.by)
		}
		t.add(p)
	}
}

// part is a term as one part.
func (s *simplifier) part(n node) part {
	switch n.Op {
	case api.ONum:
		return part{n.Int, noTerm}
	case api.OMul:
		if many := s.at(n.Args[0]); many.Op == api.ONum {
			return part{many.Int, n.Args[1]}
		}
	}
	return part{whole.Of(1), n.number}
}

// written is the term of parts.
func (s *simplifier) written(parts []part) int {
	var list []int
	for _, p := range parts {
		list = append(list, s.writtenPart(p))
	}
	switch len(list) {
	case 0:
		return s.whole(api.Int{}, api.OK)
	case 1:
		return list[0]
	}
	return s.of(api.OAdd, list...)
}

func (s *simplifier) writtenPart(p part) int {
	switch {
	case p.term == noTerm:
		return s.whole(p.by, api.OK)
	case isOne(p.by):
		return p.term
	}
	return s.of(api.OMul, s.whole(p.by, api.OK), p.term)
}
