package value

import "tribunal/api"

// first is the first value, once the datatypes have their ranks; nil, if it has too many parts.
func (f *forest) first(d *domain) *node {
	switch d.Kind {
	case api.KBool:
		return f.truth(d, false)
	case api.KInt:
		return f.number(d, api.Int{})
	case api.KBits:
		return f.vector(d, nil)
	case api.KUser:
		return f.element(d, 0)
	case api.KData:
		return f.firstTree(d)
	}
	other := f.first(d.to)
	if other == nil {
		return nil
	}
	return f.table(d, other, nil)
}

// firstTree goes from rank to lesser rank, and so comes to an end.
func (f *forest) firstTree(d *domain) *node {
	con, _ := d.lead(d.rank)
	args := make([]*node, len(con.args))
	for i, arg := range con.args {
		args[i] = f.first(arg)
		if args[i] == nil {
			return nil
		}
	}
	return f.tree(d, con.name, args)
}

// rank gives all datatypes their ranks: as they are grounded, each round finds one.
func (w *world) rank() {
	open := w.datas
	for rank := 1; len(open) > 0; rank++ {
		var rest []*domain
		for _, d := range open {
			if _, ok := d.lead(rank); ok {
				d.rank = rank
			} else {
				rest = append(rest, d)
			}
		}
		open = rest
	}
}

// lead is the first of the constructors all of whose datatypes have lesser ranks.
func (d *domain) lead(rank int) (constructor, bool) {
	for _, con := range d.cons {
		if con.below(rank) {
			return con, true
		}
	}
	return constructor{}, false
}

func (c constructor) below(rank int) bool {
	for _, d := range c.args {
		for d.Kind == api.KArray {
			d = d.to
		}
		if d.Kind == api.KData && (d.rank == 0 || d.rank >= rank) {
			return false
		}
	}
	return true
}
