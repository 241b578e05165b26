package whole

import (
	"math/bits"

	"tribunal/api"
	"tribunal/nat"
)

// Add is the sum.
func Add(a, b api.Int) (api.Int, api.Errno) { return sumOf(read(a), read(b)).answer() }

// Sub is a less b.
func Sub(a, b api.Int) (api.Int, api.Errno) { return sumOf(read(a), read(b).turned()).answer() }

// Sum is the sum of all, 0 of none.
func Sum(l ...api.Int) (api.Int, api.Errno) {
	var t tally
	for _, a := range l {
		t.add(read(a))
	}
	return t.total().answer()
}

// Mul is the product.
func Mul(a, b api.Int) (api.Int, api.Errno) {
	x, y := read(a), read(b)
	if x.zero() || y.zero() { // nat takes no long factor, not even of 0
		return api.Int{}, api.OK
	}
	size, err := nat.Mul(x.limbs(), y.limbs())
	if err != api.OK {
		return api.Int{}, err
	}
	return api.Int{Neg: x.neg != y.neg, Mag: size}, api.OK
}

// sumOf is the sum of two in new memory, however long.
func sumOf(a, b number) number {
	var t tally
	t.add(a)
	t.add(b)
	return t.total()
}

// tally is a sum in the making. The numbers below 0 are added up apart from the others: so either part only grows, and its carries cost no more than its limbs.
type tally struct{ up, down amount }

func (t *tally) add(n number) {
	if n.neg {
		t.down = t.down.plus(n.amount)
	} else {
		t.up = t.up.plus(n.amount)
	}
}

// total ends the tally: it is worked out in its memory.
func (t *tally) total() number {
	if t.up.cmp(t.down) < 0 {
		return signed(t.down.less(t.up), true)
	}
	return signed(t.up.less(t.down), false)
}

// plus is the sum, in the memory of a and its spare room.
func (a amount) plus(b amount) amount {
	if missing := len(b) - len(a); missing > 0 {
		a = append(a, make(amount, missing)...)
	}
	if addTo(a, b) {
		a = append(a, 1)
	}
	return a
}

// less is a less b, which is not above it, in the memory of a.
func (a amount) less(b amount) amount {
	var borrow uint64
	for i, x := range b {
		a[i], borrow = bits.Sub64(a[i], x, borrow)
	}
	for i := len(b); borrow != 0; i++ {
		a[i], borrow = bits.Sub64(a[i], 0, borrow)
	}
	return a.trimmed()
}

// addTo adds b, which has no more limbs, to sum, in place, and tells whether a 1 is carried beyond it.
func addTo(sum, b amount) bool {
	var carry uint64
	for i, x := range b {
		sum[i], carry = bits.Add64(sum[i], x, carry)
	}
	for i := len(b); carry != 0 && i < len(sum); i++ {
		sum[i], carry = bits.Add64(sum[i], 0, carry)
	}
	return carry != 0
}
