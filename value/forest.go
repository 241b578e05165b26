package value

import (
	"math"

	"tribunal/api"
	"tribunal/bits"
	"tribunal/whole"
)

// node is a value in normal form. A forest has each but once: two are the same just if they are one. Their lists share memory.
type node struct {
	api.Value
	id    int
	parts int // at most MaxParts
}

// row is a key of an array and what it has there.
type row struct {
	key, val *node
}

// key is what a node is known by: within its domain its name and its number tell it from others.
type key struct {
	of   *domain
	name string
	num  int
}

// link is a list's beginning and what stands behind it, by their numbers.
type link struct {
	ahead, last int
}

// forest makes nodes. What makes one answers nil, if it has more than MaxParts parts, or if there is no room for it.
type forest struct {
	*world
	nodes map[key]*node
	links map[link]int // lists by numbers from 1 on, the empty one being 0
	room  int          // how many nodes and items of their lists may still be made
}

func newForest(g api.Sig) *forest {
	return &forest{newWorld(g), map[key]*node{}, map[link]int{}, math.MaxInt}
}

// made is a node, or the error that there is none.
func made(n *node) (*node, api.Errno) {
	if n == nil {
		return nil, api.ErrMany
	}
	return n, api.OK
}

// put is the node of a key; if it is new, it has that value, and these nodes in it.
func (f *forest) put(k key, kids []*node, make func() api.Value) *node {
	if n, ok := f.nodes[k]; ok {
		return n
	}
	parts := 1 + partsOf(kids...)
	if parts > api.MaxParts || f.room <= len(kids) {
		return nil
	}
	f.room -= 1 + len(kids)
	n := &node{make(), len(f.nodes), parts}
	f.nodes[k] = n
	return n
}

// partsOf is how many parts nodes have together, or MaxParts and one more, if they are so many or more.
func partsOf(list ...*node) int {
	parts := 0
	for _, n := range list {
		parts = min(parts+n.parts, api.MaxParts+1)
	}
	return parts
}

// list is the number of a list of nodes.
func (f *forest) list(nodes []*node) int {
	num := 0
	for _, n := range nodes {
		at := link{num, n.id}
		if f.links[at] == 0 {
			f.links[at] = len(f.links) + 1
		}
		num = f.links[at]
	}
	return num
}

func (f *forest) truth(d *domain, is bool) *node {
	num := 0
	if is {
		num = 1
	}
	return f.put(key{of: d, num: num}, nil, func() api.Value { return api.Value{Kind: api.VBool, Bool: is} })
}

func (f *forest) number(d *domain, n api.Int) *node {
	n = whole.Norm(n)
	return f.put(key{of: d, name: limbs(n)}, nil, func() api.Value { return api.Value{Kind: api.VInt, Int: n} })
}

func (f *forest) vector(d *domain, n api.Nat) *node {
	b, _ := bits.From(d.Width, api.Int{Mag: n})
	return f.put(key{of: d, name: limbs(api.Int{Mag: b.Val})}, nil, func() api.Value { return api.Value{Kind: api.VBits, Bits: b} })
}

func (f *forest) element(d *domain, index int) *node {
	return f.put(key{of: d, num: index}, nil, func() api.Value { return api.Value{Kind: api.VElem, Name: d.Name, Index: index} })
}

func (f *forest) tree(d *domain, con string, args []*node) *node {
	return f.put(key{d, con, f.list(args)}, args, func() api.Value {
		return api.Value{Kind: api.VTree, Name: con, Args: valuesOf(args)}
	})
}

// table is an array that has these rows, sorted, and another value elsewhere.
func (f *forest) table(d *domain, other *node, rows []row) *node {
	kids := []*node{other}
	for _, r := range rows {
		kids = append(kids, r.key, r.val)
	}
	return f.put(key{of: d, num: f.list(kids)}, kids, func() api.Value {
		return api.Value{Kind: api.VArray, Sort: d.Sort, Else: valuesOf(kids[:1]), Rows: valuesOfRows(rows)}
	})
}

func valuesOf(nodes []*node) []api.Value {
	list := make([]api.Value, len(nodes))
	for i, n := range nodes {
		list[i] = n.Value
	}
	return list
}

func valuesOfRows(rows []row) []api.Row {
	list := make([]api.Row, len(rows))
	for i, r := range rows {
		list[i] = api.Row{Key: r.key.Value, Val: r.val.Value}
	}
	return list
}

// limbs is a text that no other number has in its canonical form.
func limbs(n api.Int) string {
	text := make([]byte, 0, 1+8*len(n.Mag))
	if n.Neg {
		text = append(text, '-')
	}
	for _, limb := range n.Mag {
		for shift := 0; shift < 64; shift += 8 {
			text = append(text, byte(limb>>shift))
		}
	}
	return string(text)
}
