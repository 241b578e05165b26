// Package nat is layer 1: natural numbers without bound, but for the number of their limbs.
package nat

import (
	"math/bits"

	"tribunal/api"
)

const limbBits = 64

// Of is the number n.
func Of(n uint64) api.Nat {
	if n == 0 {
		return nil
	}
	return api.Nat{n}
}

// Small is the number as a uint64, if it is one.
func Small(a api.Nat) (uint64, bool) {
	a = trim(a)
	switch len(a) {
	case 0:
		return 0, true
	case 1:
		return a[0], true
	}
	return 0, false
}

// Cmp is -1, 0 or 1: a is below b, the same, above.
func Cmp(a, b api.Nat) int {
	a, b = trim(a), trim(b)
	switch {
	case len(a) < len(b):
		return -1
	case len(a) > len(b):
		return 1
	}
	for i := len(a) - 1; i >= 0; i-- {
		switch {
		case a[i] < b[i]:
			return -1
		case a[i] > b[i]:
			return 1
		}
	}
	return 0
}

// Len is how many binary digits a has.
func Len(a api.Nat) int {
	a = trim(a)
	if len(a) == 0 {
		return 0
	}
	return (len(a)-1)*limbBits + bits.Len64(a[len(a)-1])
}

// Bit tells whether the binary digit of 2 to the i is a 1.
func Bit(a api.Nat, i int) bool {
	if i < 0 || i/limbBits >= len(a) {
		return false
	}
	return a[i/limbBits]>>(i%limbBits)&1 == 1
}

// trim leaves the zeros on top out. It shares memory with a: what comes of an argument may be read, not answered.
func trim(a api.Nat) api.Nat {
	n := len(a)
	for n > 0 && a[n-1] == 0 {
		n--
	}
	return a[:n]
}

// tooLong asks of a trimmed number whether it is long.
func tooLong(a api.Nat) bool { return len(a) > api.MaxLimbs }

// fresh is a in memory of its own, trimmed.
func fresh(a api.Nat) api.Nat {
	a = trim(a)
	if len(a) == 0 {
		return nil
	}
	own := make(api.Nat, len(a))
	copy(own, a)
	return own
}

// settle trims what was worked out in new memory, so that it may be answered.
func settle(own api.Nat) api.Nat {
	own = trim(own)
	if len(own) == 0 {
		return nil
	}
	return own
}

// answer settles a number that may have come out long.
func answer(own api.Nat) (api.Nat, api.Errno) {
	own = settle(own)
	if tooLong(own) {
		return nil, api.ErrBig
	}
	return own, api.OK
}
