package whole

import (
	"math"
	"math/bits"

	"tribunal/api"
	"tribunal/nat"
)

// Quo is the quotient cut, and what is left.
func Quo(a, b api.Int) (api.Int, api.Int, api.Errno) {
	d, err := divide(read(a), read(b))
	if err != api.OK {
		return api.Int{}, api.Int{}, err
	}
	return d.answers()
}

// DivMod is SMT-LIB's quotient, and its rest.
func DivMod(a, b api.Int) (api.Int, api.Int, api.Errno) {
	by := read(b)
	d, err := divide(read(a), by)
	if err != api.OK {
		return api.Int{}, api.Int{}, err
	}
	if d.rest.neg {
		d.quo = sumOf(d.quo, unit(!by.neg))
		d.rest = sumOf(d.rest, signed(by.amount, false))
	}
	return d.answers()
}

// Floor is a / b rounded down.
func Floor(a, b api.Int) (api.Int, api.Errno) {
	by := read(b)
	d, err := divide(read(a), by)
	if err != api.OK {
		return api.Int{}, err
	}
	if !d.rest.zero() && d.rest.neg != by.neg {
		d.quo = sumOf(d.quo, unit(true))
	}
	return d.quo.answer()
}

// Ceil is a / b rounded up.
func Ceil(a, b api.Int) (api.Int, api.Errno) {
	by := read(b)
	d, err := divide(read(a), by)
	if err != api.OK {
		return api.Int{}, err
	}
	if !d.rest.zero() && d.rest.neg == by.neg {
		d.quo = sumOf(d.quo, unit(false))
	}
	return d.quo.answer()
}

// unit is 1, or -1.
func unit(neg bool) number { return number{amount{1}, neg} }

// division is a quotient cut and what is left, in new memory. Either may be long: what is asked for may not be, though it comes of it.
type division struct{ quo, rest number }

func divide(a, b number) (division, api.Errno) {
	switch {
	case b.zero():
		return division{}, api.ErrZero
	case len(a.amount)-len(b.amount) > api.MaxLimbs: // the quotient has that many limbs at least
		return division{}, api.ErrBig
	}
	quo, rest := a.quo(b.amount)
	return division{signed(quo, a.neg != b.neg), signed(rest, a.neg)}, api.OK
}

func (d division) answers() (api.Int, api.Int, api.Errno) {
	quo, err := d.quo.answer()
	if err != api.OK {
		return api.Int{}, api.Int{}, err
	}
	rest, err := d.rest.answer()
	if err != api.OK {
		return api.Int{}, api.Int{}, err
	}
	return quo, rest, api.OK
}

// quo is the quotient and what is left, in new memory; b is above 0.
func (a amount) quo(b amount) (amount, amount) {
	switch {
	case !a.long() && !b.long():
		quo, rest, _ := nat.Quo(a.limbs(), b.limbs())
		return amount(quo), amount(rest)
	case a.cmp(b) < 0:
		return nil, a.fresh()
	}
	return a.quoByHand(b)
}

// quoByHand works a limb of the quotient out at a time, for the long ones that nat does not take; b is not above a.
func (a amount) quoByHand(b amount) (amount, amount) {
	quo := make(amount, len(a)-len(b)+1)
	rest := append(a.fresh(), 0)
	for i := len(quo) - 1; i >= 0; i-- {
		quo[i] = takeQuotient(rest[i:i+len(b)+1], b)
	}
	return quo.trimmed(), rest.trimmed()
}

// takeQuotient is part divided by b, one limb; what is left stays in part.
func takeQuotient(part, b amount) uint64 {
	quo := guessQuotient(part, b)
	if takeTimes(part, b, quo) { // the guess is at most 1 above the quotient
		quo--
		addTo(part, b)
	}
	return quo
}

// guessQuotient divides the highest limbs alone. What b's two highest make is 2^64 at least: so the guess is never below the quotient, and at most 1 above.
func guessQuotient(part, b amount) uint64 {
	cut := max(len(b)-2, 0)
	quo, _, _ := nat.Quo(part[cut:].limbs(), b[cut:].limbs())
	if guess, fits := nat.Small(quo); fits {
		return guess
	}
	return math.MaxUint64
}

// takeTimes takes x times b from part, which has a limb more, and tells whether that was more than there is.
func takeTimes(part, b amount, x uint64) bool {
	var carry, borrow uint64
	for i, y := range b {
		high, low := bits.Mul64(x, y)
		low, over := bits.Add64(low, carry, 0)
		carry = high + over
		part[i], borrow = bits.Sub64(part[i], low, borrow)
	}
	part[len(b)], borrow = bits.Sub64(part[len(b)], carry, borrow)
	return borrow != 0
}
