package value

import (
	"cmp"
	"strings"

	"tribunal/api"
	"tribunal/whole"
)

// pair is two lists of so many items, by their first values.
type pair struct {
	a, b *api.Value
	m, n int
}

// comparison ends at the first difference: so lists that it has met before made none. Lists may be shared many times over, or hold themselves: once there were more pairs of them than a value has parts, none is looked at twice.
type comparison struct {
	looks int
	pairs map[pair]struct{}
}

func (c *comparison) values(a, b *api.Value) int {
	if a.Kind != b.Kind {
		return cmp.Compare(a.Kind, b.Kind)
	}
	switch x := kindOf(a).(type) {
	case truth:
		return compareTruths(x.Bool, b.Bool)
	case number:
		return whole.Cmp(x.Int, b.Int)
	case vector:
		return cmp.Or(cmp.Compare(x.Bits.Width, b.Bits.Width), whole.Cmp(api.Int{Mag: x.Bits.Val}, api.Int{Mag: b.Bits.Val}))
	case tree:
		if x.Name != b.Name {
			return strings.Compare(x.Name, b.Name)
		}
		return c.lists(x.Args, b.Args)
	case array:
		if order := c.lists(x.Else, b.Else); order != 0 {
			return order
		}
		return c.rows(x.Rows, b.Rows)
	case element:
		return cmp.Or(strings.Compare(x.Name, b.Name), cmp.Compare(x.Index, b.Index))
	}
	return 0
}

func compareTruths(a, b bool) int {
	switch {
	case a == b:
		return 0
	case b:
		return -1
	}
	return 1
}

func (c *comparison) lists(a, b []api.Value) int {
	if len(a) == 0 || len(b) == 0 || c.met(pair{&a[0], &b[0], len(a), len(b)}) {
		return cmp.Compare(len(a), len(b))
	}
	return inTurn(a, b, c.values)
}

func (c *comparison) rows(a, b []api.Row) int {
	if len(a) == 0 || len(b) == 0 || c.met(pair{&a[0].Key, &b[0].Key, len(a), len(b)}) {
		return cmp.Compare(len(a), len(b))
	}
	return inTurn(a, b, func(x, y *api.Row) int {
		if order := c.values(&x.Key, &y.Key); order != 0 {
			return order
		}
		return c.values(&x.Val, &y.Val)
	})
}

// inTurn goes by the items, one by one; a list that ends first stands first.
func inTurn[T any](a, b []T, each func(x, y *T) int) int {
	for i := range min(len(a), len(b)) {
		if order := each(&a[i], &b[i]); order != 0 {
			return order
		}
	}
	return cmp.Compare(len(a), len(b))
}

// met tells whether two lists are known to make no difference, as far as both go.
func (c *comparison) met(p pair) bool {
	if p.a == p.b {
		return true
	}
	c.looks++
	if c.looks <= api.MaxParts {
		return false
	}
	if c.pairs == nil {
		c.pairs = map[pair]struct{}{}
	}
	if _, met := c.pairs[p]; met {
		return true
	}
	c.pairs[p] = struct{}{}
	return false
}

// compare is of nodes of one domain: what is the same in both has the same lists, and is not looked at.
func (n *node) compare(m *node) int {
	if n == m {
		return 0
	}
	return new(comparison).values(&n.Value, &m.Value)
}
