package term

import "math/bits"

// Below are the terms of which some are made, and these, rising.
func (t *Table) Below(roots ...int) []int {
	var open []int
	end := 0
	for _, i := range roots {
		if t.has(i) {
			open = append(open, i)
			end = max(end, i+1)
		}
	}
	found := newSet(end)
	for len(open) > 0 {
		i := open[len(open)-1]
		open = open[:len(open)-1]
		if found.add(i) {
			open = append(open, t.records[i].Args...)
		}
	}
	return found.list()
}

// set is of numbers from 0 on: a bit each, which keeps it small beside a table, and in order.
type set []uint64

// newSet has room for the numbers below end.
func newSet(end int) set { return make(set, (end+63)/64) }

// add tells whether the number was not there.
func (s set) add(i int) bool {
	bit := uint64(1) << (i % 64)
	if s[i/64]&bit != 0 {
		return false
	}
	s[i/64] |= bit
	return true
}

// list is the numbers, rising.
func (s set) list() []int {
	var list []int
	for i, word := range s {
		for ; word != 0; word &= word - 1 {
			list = append(list, 64*i+bits.TrailingZeros64(word))
		}
	}
	return list
}
