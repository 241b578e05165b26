package eval

import (
	"slices"

	"tribunal/api"
	"tribunal/fresh"
	"tribunal/value"
)

// node is a value in normal form. Nodes share their parts, and none is changed once it is made.
type node struct {
	api.Value // without Args, Else and Rows
	args      []*node
	other     *node // of an array: its Else
	rows      []row // by rising keys
	peak      int   // no value is in more of the rows
	parts     int
}

// row is a key of an array and what it has there.
type row struct{ key, val *node }

func leaf(v api.Value) *node { return &node{Value: v, parts: 1} }

// read is the node of a value in normal form. It may share memory with it.
func read(v *api.Value) *node {
	n := leaf(*v)
	n.Args, n.Else, n.Rows = nil, nil, nil
	for i := range v.Args {
		n.args = append(n.args, n.part(read(&v.Args[i])))
	}
	for i := range v.Else {
		n.other = n.part(read(&v.Else[i]))
	}
	n.rows = slices.Grow(n.rows, len(v.Rows))
	for i := range v.Rows {
		n.rows = append(n.rows, row{n.part(read(&v.Rows[i].Key)), n.part(read(&v.Rows[i].Val))})
	}
	n.peak = len(n.rows)
	return n
}

// part counts the parts of one more value in a node that is being made.
func (n *node) part(p *node) *node {
	n.parts += p.parts
	return p
}

// told is the value, in memory of its own.
func (n *node) told() api.Value {
	v := n.Value
	v.Int.Mag, v.Bits.Val, v.Sort = fresh.List(v.Int.Mag), fresh.List(v.Bits.Val), fresh.Sort(v.Sort)
	v.Args = slices.Grow(v.Args, len(n.args))
	for _, arg := range n.args {
		v.Args = append(v.Args, arg.told())
	}
	if n.other != nil {
		v.Else = []api.Value{n.other.told()}
	}
	v.Rows = slices.Grow(v.Rows, len(n.rows))
	for _, r := range n.rows {
		v.Rows = append(v.Rows, api.Row{Key: r.key.told(), Val: r.val.told()})
	}
	return v
}

// compare is the order of values of one sort; 0 is of one and the same.
func compare(a, b *node) int {
	if a == b {
		return 0
	}
	if order := value.Cmp(a.Value, b.Value); order != 0 {
		return order
	}
	if order := compareLists(a.args, b.args); order != 0 {
		return order
	}
	if order := compare(a.other, b.other); order != 0 {
		return order
	}
	return slices.CompareFunc(a.rows, b.rows, compareRows)
}

func compareLists(a, b []*node) int { return slices.CompareFunc(a, b, compare) }

func compareRows(a, b row) int {
	if order := compare(a.key, b.key); order != 0 {
		return order
	}
	return compare(a.val, b.val)
}
