package nat

import (
	"math/bits"

	"tribunal/api"
)

// Add is the sum of all, 0 of none.
func Add(l ...api.Nat) (api.Nat, api.Errno) {
	longest := 0
	for _, a := range l {
		a = trim(a)
		if tooLong(a) {
			return nil, api.ErrBig
		}
		longest = max(longest, len(a))
	}
	// One limb more is room enough: there are fewer than 2^64 numbers.
	sum := make(api.Nat, longest+1)
	for _, a := range l {
		addTo(sum, trim(a))
	}
	return answer(sum)
}

// Sub is a less b.
func Sub(a, b api.Nat) (api.Nat, api.Errno) {
	a, b = trim(a), trim(b)
	switch {
	case tooLong(a) || tooLong(b):
		return nil, api.ErrBig
	case Cmp(a, b) < 0:
		return nil, api.ErrBelow
	}
	rest := fresh(a)
	takeFrom(rest, b)
	return settle(rest), api.OK
}

// addTo adds a, which has no more limbs than sum, to sum, in place. What is carried beyond sum is lost.
func addTo(sum, a api.Nat) {
	var carry uint64
	for i, x := range a {
		sum[i], carry = bits.Add64(sum[i], x, carry)
	}
	for i := len(a); carry != 0 && i < len(sum); i++ {
		sum[i], carry = bits.Add64(sum[i], 0, carry)
	}
}

// takeFrom takes b, which is not above rest, from rest, in place.
func takeFrom(rest, b api.Nat) {
	var borrow uint64
	for i, x := range b {
		rest[i], borrow = bits.Sub64(rest[i], x, borrow)
	}
	for i := len(b); borrow != 0 && i < len(rest); i++ {
		rest[i], borrow = bits.Sub64(rest[i], 0, borrow)
	}
}
