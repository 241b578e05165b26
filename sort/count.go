package sort

import "tribunal/api"

// Finite tells whether a sort is.
func Finite(s api.Sort, g api.Sig) bool {
	n, ok := measure(s, g, 1)
	return ok && n.kind != endless
}

// Count: how many values a sort has, at most so many.
func Count(s api.Sort, g api.Sig, most int) (int, bool) {
	if most < 1 { // each sort has a value
		return 0, false
	}
	n, ok := measure(s, g, most)
	if !ok || n.kind != counted {
		return 0, false
	}
	return n.n, true
}

const (
	endless = iota // no number
	over           // a number above the most
	counted
)

// size is how many values a sort has; n is 0, if it isn't counted.
type size struct {
	kind, n int
}

// scale makes sizes up to the most, which is at least 1. All of them are of at least one value: so what is multiplied with one that is over, or has one as its power, is over too (but a power of 1).
type scale struct {
	*world
	most  int
	sizes []size // of the datatypes
}

func measure(s api.Sort, g api.Sig, most int) (size, bool) {
	w, e := look(g)
	if e != api.OK || w.where.check(s) != api.OK {
		return size{}, false
	}
	c := &scale{world: w, most: most, sizes: make([]size, len(g.Datas))}
	for _, i := range w.order { // the first one of a ring meets one that is still endless, and so all of them are
		c.sizes[i] = c.ofData(w.datas[i])
	}
	return c.of(s), true
}

func (c *scale) of(s api.Sort) size {
	switch s.Kind {
	case api.KBool:
		return c.number(2)
	case api.KBits:
		return c.power(c.number(2), size{counted, s.Width})
	case api.KArray:
		return c.power(c.of(s.Args[1]), c.of(s.Args[0]))
	case api.KData:
		return c.sizes[c.where.data(s.Name)]
	}
	return size{}
}

func (c *scale) ofData(data api.Datatype) size {
	sum := size{counted, 0}
	for _, con := range data.Cons {
		product := size{counted, 1}
		for _, sel := range con.Sels {
			product = c.times(product, c.of(sel.Sort))
		}
		sum = c.plus(sum, product)
	}
	return sum
}

// number is a size of at least 1.
func (c *scale) number(n int) size {
	if n > c.most {
		return size{over, 0}
	}
	return size{counted, n}
}

func (c *scale) plus(a, b size) size {
	if a.kind != counted || b.kind != counted {
		return size{min(a.kind, b.kind), 0}
	}
	if a.n > c.most-b.n {
		return size{over, 0}
	}
	return size{counted, a.n + b.n}
}

func (c *scale) times(a, b size) size {
	if a.kind != counted || b.kind != counted {
		return size{min(a.kind, b.kind), 0}
	}
	if a.n > c.most/b.n {
		return size{over, 0}
	}
	return size{counted, a.n * b.n}
}

// power of a base of at least 2 doubles at each step at least, so that it ends soon.
func (c *scale) power(base, by size) size {
	if base == (size{counted, 1}) {
		return base
	}
	if base.kind != counted || by.kind != counted {
		return size{min(base.kind, by.kind), 0}
	}
	product := size{counted, 1}
	for i := 0; i < by.n && product.kind == counted; i++ {
		product = c.times(product, base)
	}
	return product
}
