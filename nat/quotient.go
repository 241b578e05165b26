package nat

import (
	"math/bits"

	"tribunal/api"
)

// Quo is the quotient, and what is left.
func Quo(a, b api.Nat) (api.Nat, api.Nat, api.Errno) {
	a, b = trim(a), trim(b)
	switch {
	case tooLong(a) || tooLong(b):
		return nil, nil, api.ErrBig
	case len(b) == 0:
		return nil, nil, api.ErrZero
	}
	q, r := divide(a, b)
	return q, r, api.OK
}

// divide is Quo of trimmed numbers, b above 0, in new memory.
func divide(a, b api.Nat) (api.Nat, api.Nat) {
	if len(a) < len(b) {
		return nil, fresh(a)
	}
	if len(b) == 1 {
		q := fresh(a)
		r := divideByLimb(q, b[0])
		return settle(q), Of(r)
	}
	return divideLong(a, b)
}

// divideByLimb divides own by d, in place, and answers what is left.
func divideByLimb(own api.Nat, d uint64) uint64 {
	var rest uint64
	for i := len(own) - 1; i >= 0; i-- {
		own[i], rest = bits.Div64(rest, own[i], d)
	}
	return rest
}

// divideLong is division as by hand, a limb of the quotient at a time; b has two limbs at least, a not fewer than b.
// Both are shifted till b's highest bit is set: only then is each guess good.
func divideLong(a, b api.Nat) (api.Nat, api.Nat) {
	n := len(b)
	shift := bits.LeadingZeros64(b[n-1])
	d := make(api.Nat, n+1)
	shiftUp(d, b, shift)
	d = d[:n]
	rest := make(api.Nat, len(a)+1)
	shiftUp(rest, a, shift)
	q := make(api.Nat, len(a)-n+1)
	for i := len(q) - 1; i >= 0; i-- {
		q[i] = takeQuotient(rest[i:i+n+1], d)
	}
	shiftDown(rest[:n], rest[:n], shift)
	return settle(q), settle(rest[:n])
}

// takeQuotient is part divided by d, one limb; what is left stays in part.
func takeQuotient(part, d api.Nat) uint64 {
	n := len(d)
	q := guessQuotient(part[n-2:], d[n-2:])
	borrow := takeTimes(part[:n], d, q)
	over := borrow > part[n]
	part[n] -= borrow
	if over { // the guess is at most 1 above the quotient
		q--
		addTo(part, d)
	}
	return q
}

// guessQuotient divides the three highest limbs by the two highest: it is never below the quotient, and seldom above.
func guessQuotient(top, d api.Nat) uint64 {
	if top[2] >= d[1] {
		return 1<<limbBits - 1
	}
	q, rest := bits.Div64(top[2], top[1], d[1])
	for {
		high, low := bits.Mul64(q, d[0])
		if high < rest || high == rest && low <= top[0] {
			return q
		}
		q--
		var over uint64
		if rest, over = bits.Add64(rest, d[1], 0); over != 0 {
			return q
		}
	}
}

// takeTimes takes x times b from as many limbs of rest, and answers what is borrowed on.
func takeTimes(rest, b api.Nat, x uint64) uint64 {
	var carry uint64
	for i, y := range b {
		high, low := mulAdd(x, y, carry)
		var under uint64
		rest[i], under = bits.Sub64(rest[i], low, 0)
		carry = high + under
	}
	return carry
}
