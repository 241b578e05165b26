package rewrite

import (
	"slices"

	"tribunal/api"
	"tribunal/term"
)

// builder makes terms in a table; behind its first error it makes none.
type builder struct {
	*term.Table
	fault api.Errno
}

// node is a term with its number.
type node struct {
	api.Node
	number int
}

// begin is a builder over a table that has those terms.
func begin(t *term.Table, terms ...int) (*builder, api.Errno) {
	if _, e := t.Text(-1); e == api.ErrNil { // a table that was made says of -1 that it is no term
		return nil, e
	}
	for _, i := range terms {
		if _, ok := t.Sort(i); !ok {
			return nil, api.ErrArg
		}
	}
	return &builder{Table: t}, api.OK
}

// answer is what is told of a term that was made.
func (b *builder) answer(i int) (int, api.Errno) {
	if b.fault != api.OK {
		return 0, b.fault
	}
	return i, api.OK
}

// at is the term of a number.
func (b *builder) at(i int) node {
	n, _ := b.Node(i)
	return node{n, i}
}

// all are the terms of numbers.
func (b *builder) all(list []int) []node {
	nodes := make([]node, len(list))
	for k, i := range list {
		nodes[k] = b.at(i)
	}
	return nodes
}

// fail keeps the first error.
func (b *builder) fail(e api.Errno) {
	if b.fault == api.OK {
		b.fault = e
	}
}

func (b *builder) put(n api.Node) int {
	if b.fault != api.OK {
		return 0
	}
	i, e := b.Add(n)
	b.fail(e)
	return i
}

// of is an operator applied to terms.
func (b *builder) of(op api.Op, args ...int) int { return b.put(api.Node{Op: op, Args: args}) }

// with is a term with other arguments.
func (b *builder) with(n node, args []int) node {
	if slices.Equal(n.Args, args) {
		return n
	}
	n.Args = args
	return node{n.Node, b.put(n.Node)}
}

func (b *builder) truth(is bool) int {
	if is {
		return b.of(api.OTrue)
	}
	return b.of(api.OFalse)
}

// whole is an ONum, if there was no error.
func (b *builder) whole(n api.Int, e api.Errno) int {
	b.fail(e)
	return b.put(api.Node{Op: api.ONum, Int: n})
}

// vector is an OBits, if there was no error.
func (b *builder) vector(v api.Bits, e api.Errno) int {
	b.fail(e)
	return b.put(api.Node{Op: api.OBits, Bits: v})
}

func (b *builder) not(i int) int { return b.of(api.ONot, i) }

// nots are the ONots of some terms.
func (b *builder) nots(list []int) []int {
	var nots []int
	for _, i := range list {
		nots = append(nots, b.not(i))
	}
	return nots
}

// negation is the chapter's: an ONot only where nothing shorter says it.
func (b *builder) negation(i int) int {
	switch n := b.at(i); n.Op {
	case api.OTrue, api.OFalse:
		return b.truth(n.Op == api.OFalse)
	case api.ONot:
		return n.Args[0]
	}
	return b.not(i)
}

// unlike says of each two terms that they are not the same: the first and the second, the first and the third, and so on.
func (b *builder) unlike(list []int) []int {
	var pairs []int
	for k, i := range list {
		for _, j := range list[k+1:] {
			pairs = append(pairs, b.not(b.of(api.OEq, i, j)))
		}
	}
	return pairs
}

// rebuilt is the term of which the same is made as of all on which it stands, from below: what done says, else what turn makes of it with the arguments that were made of its own.
func (b *builder) rebuilt(root int, done map[int]int, turn func(n node) int) int {
	for _, i := range b.Below(root) {
		if _, is := done[i]; is {
			continue
		}
		n := b.at(i)
		args := make([]int, len(n.Args))
		for k, arg := range n.Args {
			args[k] = done[arg]
		}
		done[i] = turn(b.with(n, args))
		if b.fault != api.OK {
			return 0
		}
	}
	return done[root]
}

// kept is a term as it stands.
func kept(n node) int { return n.number }
