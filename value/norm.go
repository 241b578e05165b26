package value

import (
	"slices"

	"tribunal/api"
)

// norm is the normal form of a value.
func (f *forest) norm(v api.Value, d *domain) (*node, api.Errno) {
	if e := d.check(v); e != api.OK {
		return nil, e
	}
	return made(f.read(&v, d))
}

// read is the node of a value of the domain; nil, if it or a value in it has too many parts.
func (f *forest) read(v *api.Value, d *domain) *node {
	switch x := kindOf(v).(type) {
	case truth:
		return f.truth(d, x.Bool)
	case number:
		return f.number(d, x.Int)
	case vector:
		return f.vector(d, x.Bits.Val)
	case tree:
		return f.readTree(x, d)
	case array:
		return f.readArray(x, d)
	}
	return f.element(d, v.Index)
}

func (f *forest) readTree(x tree, d *domain) *node {
	con, _ := d.con(x.Name)
	args := make([]*node, len(x.Args))
	for i, of := range con.args {
		args[i] = f.read(&x.Args[i], of)
		if args[i] == nil {
			return nil
		}
	}
	return f.tree(d, x.Name, args)
}

func (f *forest) readArray(x array, d *domain) *node {
	other := f.read(&x.Else[0], d.to)
	if other == nil {
		return nil
	}
	var rows []row
	places := map[*node]int{}
	for i := range x.Rows {
		r := row{f.read(&x.Rows[i].Key, d.from), f.read(&x.Rows[i].Val, d.to)}
		if r.key == nil || r.val == nil {
			return nil
		}
		if place, twice := places[r.key]; twice {
			rows[place] = r
			continue
		}
		places[r.key] = len(rows)
		rows = append(rows, r)
	}
	return f.array(d, other, rows)
}

// array is the normal form of an array: what it has at some keys, each of them once, and at all others.
func (f *forest) array(d *domain, other *node, rows []row) *node {
	rows = without(other, rows)
	if best := f.most(d, other, rows); best != other {
		rest, ok := f.rest(d, other, rows)
		if !ok {
			return nil
		}
		other, rows = best, append(without(best, rows), rest...)
	}
	slices.SortFunc(rows, func(a, b row) int { return a.key.compare(b.key) })
	return f.table(d, other, rows)
}

// without is the rows that have another value.
func without(val *node, rows []row) []row {
	var list []row
	for _, r := range rows {
		if r.val != val {
			list = append(list, r)
		}
	}
	return list
}

// most is the value at the most keys, and of those that are even the first one; the other value is in none of the rows.
func (f *forest) most(d *domain, other *node, rows []row) *node {
	if len(rows) == 0 {
		return other
	}
	size, ok := f.count(d.from)
	if !ok { // there are more than twice as many keys as rows
		return other
	}
	times := map[*node]int{other: size - len(rows)}
	for _, r := range rows {
		times[r.val]++
	}
	best := other
	for _, r := range rows {
		if times[r.val] > times[best] || times[r.val] == times[best] && r.val.compare(best) < 0 {
			best = r.val
		}
	}
	return best
}

// rest is rows for all other keys.
func (f *forest) rest(d *domain, other *node, rows []row) ([]row, bool) {
	keys := f.listed(d.from)
	if keys == nil {
		return nil, false
	}
	known := map[*node]struct{}{}
	for _, r := range rows {
		known[r.key] = struct{}{}
	}
	var list []row
	for _, k := range keys {
		if _, has := known[k]; !has {
			list = append(list, row{k, other})
		}
	}
	return list, true
}

// at is what an array has at a key.
func (n *node) at(key *node) api.Value {
	place, there := slices.BinarySearchFunc(n.Rows, key.Value, func(r api.Row, k api.Value) int { return Cmp(r.Key, k) })
	if there {
		return n.Rows[place].Val
	}
	return n.Else[0]
}
