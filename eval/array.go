package eval

import (
	"slices"

	"tribunal/api"
	"tribunal/sort"
	"tribunal/value"
)

// stored is an array of the sort with another value at a key.
func (d *domain) stored(n, key, val *node) (*node, api.Errno) {
	switch {
	case d.mayTurn(n):
		n, e := made(value.Store(n.told(), key.told(), val.told(), d.Sort, d.sig()))
		if e != api.OK {
			return nil, e
		}
		n.peak = peakOf(n.rows)
		return n, api.OK
	case n.parts+key.parts+val.parts > api.MaxParts: // value.Store looks at the array with one row more
		return nil, api.ErrMany
	}
	return n.with(key, val), api.OK
}

// mayTurn tells whether in an array, with one value stored, another one than Else may be at the most keys.
func (d *domain) mayTurn(n *node) bool {
	if !d.sized {
		d.keys, _ = sort.Count(d.Args[0], d.sig(), api.MaxParts) // of more keys less than half stand in rows
		d.sized = true
	}
	return d.keys > 0 && d.keys-len(n.rows)-1 <= n.peak+1
}

// find is where a key's row stands, or would stand, and whether there is one.
func (n *node) find(key *node) (int, bool) {
	return slices.BinarySearchFunc(n.rows, key, func(r row, k *node) int { return compare(r.key, k) })
}

// at is what an array has at a key.
func (n *node) at(key *node) *node {
	if place, there := n.find(key); there {
		return n.rows[place].val
	}
	return n.other
}

// with is an array with another value at a key, where most keys have its Else before and behind it.
func (n *node) with(key, val *node) *node {
	own := *n
	place, there := n.find(key)
	end := place
	if there {
		end++
		own.parts -= key.parts + n.rows[place].val.parts
	}
	var here []row
	if compare(val, n.other) != 0 {
		here = []row{{key, val}}
		own.parts += key.parts + val.parts
	}
	own.rows = slices.Concat(n.rows[:place], here, n.rows[end:])
	own.peak = min(own.peak+1, len(own.rows))
	return &own
}

// peakOf is in how many rows that value is which is in the most.
func peakOf(rows []row) int {
	rows = slices.Clone(rows)
	slices.SortFunc(rows, func(a, b row) int { return compare(a.val, b.val) })
	run, most := 0, 0
	for i, r := range rows {
		if i > 0 && compare(rows[i-1].val, r.val) != 0 {
			run = 0
		}
		run++
		most = max(most, run)
	}
	return most
}
