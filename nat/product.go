package nat

import (
	"math/bits"

	"tribunal/api"
)

// Mul is the product of all, 1 of none.
func Mul(l ...api.Nat) (api.Nat, api.Errno) {
	zero := false
	for _, a := range l {
		a = trim(a)
		if tooLong(a) {
			return nil, api.ErrBig
		}
		zero = zero || len(a) == 0
	}
	if zero {
		return nil, api.OK
	}
	return product(l)
}

// product multiplies the products of both halves: so factors of like lengths meet, and a long list costs no more than its product.
// No factor is 0, so that the whole is long as soon as a part is.
func product(l []api.Nat) (api.Nat, api.Errno) {
	switch len(l) {
	case 0:
		return Of(1), api.OK
	case 1:
		return fresh(l[0]), api.OK
	case 2:
		return times(trim(l[0]), trim(l[1]))
	}
	left, err := product(l[:len(l)/2])
	if err != api.OK {
		return nil, err
	}
	right, err := product(l[len(l)/2:])
	if err != api.OK {
		return nil, err
	}
	return times(left, right)
}

// times is the product of two trimmed numbers above 0.
func times(a, b api.Nat) (api.Nat, api.Errno) {
	// The product has that many limbs at least.
	if len(a)+len(b)-1 > api.MaxLimbs {
		return nil, api.ErrBig
	}
	out := make(api.Nat, len(a)+len(b))
	for i, x := range a {
		out[i+len(b)] = addTimes(out[i:i+len(b)], b, x)
	}
	return answer(out)
}

// addTimes adds x times b to as many limbs of sum, and answers what is carried on.
func addTimes(sum, b api.Nat, x uint64) uint64 {
	var carry uint64
	for i, y := range b {
		high, low := mulAdd(x, y, carry)
		low, over := bits.Add64(low, sum[i], 0)
		sum[i], carry = low, high+over
	}
	return carry
}

// timesLimb is x times own, and plus, in the memory of own.
func timesLimb(own api.Nat, x, plus uint64) api.Nat {
	carry := plus
	for i, y := range own {
		carry, own[i] = mulAdd(x, y, carry)
	}
	if carry != 0 {
		own = append(own, carry)
	}
	return own
}

// mulAdd is x times y, and plus: the high limb and the low one.
func mulAdd(x, y, plus uint64) (uint64, uint64) {
	high, low := bits.Mul64(x, y)
	low, over := bits.Add64(low, plus, 0)
	return high + over, low
}
