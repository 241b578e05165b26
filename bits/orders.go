package bits

import "tribunal/api"

// order is a row of the table of orders.
type order struct {
	number func(b api.Bits) api.Int // by which of its numbers a vector stands
	holds  func(cmp int) bool
}

func orders() [api.OBvSge + 1]order {
	return [...]order{
		api.OBvUlt: {unsigned, isBelow},
		api.OBvUle: {unsigned, isNotAbove},
		api.OBvUgt: {unsigned, isAbove},
		api.OBvUge: {unsigned, isNotBelow},
		api.OBvSlt: {signed, isBelow},
		api.OBvSle: {signed, isNotAbove},
		api.OBvSgt: {signed, isAbove},
		api.OBvSge: {signed, isNotBelow},
	}
}

func orderOf(op api.Op) (order, bool) {
	table := orders()
	if op < 0 || int(op) >= len(table) {
		return order{}, false
	}
	return table[op], table[op].holds != nil
}

func isBelow(cmp int) bool    { return cmp < 0 }
func isNotAbove(cmp int) bool { return cmp <= 0 }
func isAbove(cmp int) bool    { return cmp > 0 }
func isNotBelow(cmp int) bool { return cmp >= 0 }
