package rewrite

import (
	"slices"

	"tribunal/api"
)

// simplifier is a builder with the rules of the chapter.
type simplifier struct {
	*builder
	rules  []rule
	done   map[int]int // what is simplified already: the terms, and what they are
	turned map[int]int // what the rules made of terms: these are what that is, simplified
	shapes *shapes     // nil till a rule asks for it
}

// rule is one of the chapter's list.
type rule struct {
	turn func(n node) int // the term itself, where the rule does not apply
}

func newSimplifier(b *builder) *simplifier {
	s := &simplifier{builder: b, done: map[int]int{}, turned: map[int]int{}}
	s.rules = s.list()
	return s
}

// list is the rules in their order.
func (s *simplifier) list() []rule {
	return []rule{
		{s.literals},
		{s.doubleNot},
		{s.junction},
		{s.connective},
		{s.choice},
		{s.equation},
		{s.distinction},
		{s.sum},
		{s.integers},
		{s.arrays},
		{s.trees},
		{s.vectors},
		{s.fewerVectors},
	}
}

// simplified is what a term is, simplified. Terms wait on a stack for those that must be done ahead of them: they may be nested deeper than calls should be.
func (s *simplifier) simplified(root int) int {
	open := []int{root}
	for len(open) > 0 && s.fault == api.OK {
		ahead := s.visit(open[len(open)-1])
		if len(ahead) == 0 {
			open = open[:len(open)-1]
		}
		open = append(open, ahead...)
	}
	return s.done[root]
}

// visit simplifies a term, or tells what must be done ahead of it, the last one first.
func (s *simplifier) visit(i int) []int {
	if _, is := s.done[i]; is {
		return nil
	}
	if next, is := s.turned[i]; is {
		s.done[i] = s.done[next]
		return nil
	}
	n := s.at(i)
	args, ahead := s.arguments(n)
	if len(ahead) > 0 {
		return ahead
	}
	n = s.with(n, args)
	next := s.first(n)
	if next != n.number {
		s.turned[i] = next
		return []int{next}
	}
	s.done[i], s.done[next] = next, next
	return nil
}

// arguments are a term's, simplified, and those that are not yet, the last one first.
func (s *simplifier) arguments(n node) (args, ahead []int) {
	for _, arg := range slices.Backward(n.Args) {
		is, done := s.done[arg]
		if !done {
			ahead = append(ahead, arg)
		}
		args = append(args, is)
	}
	slices.Reverse(args)
	return args, ahead
}

// first is what the first rule that applies makes of a term; the term itself, if none does.
func (s *simplifier) first(n node) int {
	for _, r := range s.rules {
		if next := r.turn(n); next != n.number || s.fault != api.OK {
			return next
		}
	}
	return n.number
}
