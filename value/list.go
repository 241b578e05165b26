package value

import (
	"slices"

	"tribunal/api"
)

// listed is all values of a domain that has no more than MaxParts, by rising order. It may be nil, where those that were not known have together more than MaxParts parts: each node that is made on the way is one of these parts, and so is each item of its lists; so twice as many leave no doubt, and the others need not be made.
func (f *forest) listed(d *domain) []*node {
	room := f.room
	f.room = min(room, 2*api.MaxParts)
	list := f.all(d)
	f.room = room
	return list
}

// all is nil, if there is no room for all.
func (f *forest) all(d *domain) []*node {
	if d.nodes != nil {
		return d.nodes
	}
	var list []*node
	add := func(n *node) bool {
		list = append(list, n)
		return n != nil
	}
	if !f.each(d, add) {
		return nil
	}
	slices.SortFunc(list, (*node).compare)
	d.nodes = list
	return list
}

// each goes through all values, each once, in any order, till the caller has enough, and tells whether it came to the end.
func (f *forest) each(d *domain, add func(n *node) bool) bool {
	switch d.Kind {
	case api.KBool:
		return add(f.truth(d, false)) && add(f.truth(d, true))
	case api.KBits:
		return f.eachVector(d, add)
	case api.KArray:
		return f.eachArray(d, add)
	case api.KData:
		return f.eachTree(d, add)
	}
	return false
}

func (f *forest) eachVector(d *domain, add func(n *node) bool) bool {
	for i := range uint64(1) << d.Width {
		if !add(f.vector(d, api.Nat{i})) {
			return false
		}
	}
	return true
}

func (f *forest) eachTree(d *domain, add func(n *node) bool) bool {
	for _, con := range d.cons {
		lists := make([][]*node, len(con.args))
		for i, arg := range con.args {
			lists[i] = f.all(arg)
			if lists[i] == nil {
				return false
			}
		}
		ended := tuples(lists, nil, func(args []*node) bool { return add(f.tree(d, con.name, args)) })
		if !ended {
			return false
		}
	}
	return true
}

func (f *forest) eachArray(d *domain, add func(n *node) bool) bool {
	vals := f.all(d.to)
	if vals == nil {
		return false
	}
	if size, _ := f.count(d.from); size == 1 || len(vals) == 1 { // no key stands in a row: there may be no end of them, or they may be too great
		return tuples([][]*node{vals}, nil, func(val []*node) bool { return add(f.table(d, val[0], nil)) })
	}
	keys := f.all(d.from)
	if keys == nil {
		return false
	}
	return tuples(slices.Repeat([][]*node{vals}, len(keys)), nil, func(vals []*node) bool {
		rows := make([]row, len(keys))
		for i, k := range keys {
			rows[i] = row{k, vals[i]}
		}
		return add(f.array(d, vals[0], rows))
	})
}

// tuples goes through all lists of an item of each list, these items ahead, till the caller has enough, and tells whether it came to the end.
func tuples(lists [][]*node, ahead []*node, each func(tuple []*node) bool) bool {
	if len(lists) == 0 {
		return each(ahead)
	}
	for _, n := range lists[0] {
		if !tuples(lists[1:], append(ahead, n), each) {
			return false
		}
	}
	return true
}
