package nat

import (
	"math/bits"

	"tribunal/api"
)

// Gcd is the greatest common divisor; of 0 and a number the number.
func Gcd(a, b api.Nat) (api.Nat, api.Errno) {
	a, b = trim(a), trim(b)
	if tooLong(a) || tooLong(b) {
		return nil, api.ErrBig
	}
	if Cmp(a, b) < 0 {
		a, b = b, a
	}
	if len(b) > 1 {
		a, b = shrink(fresh(a), fresh(b))
	}
	if len(b) == 0 {
		return fresh(a), api.OK
	}
	return Of(gcdLimbs(b[0], restByLimb(a, b[0]))), api.OK
}

func restByLimb(a api.Nat, d uint64) uint64 {
	var rest uint64
	for i := len(a) - 1; i >= 0; i-- {
		_, rest = bits.Div64(rest, a[i], d)
	}
	return rest
}

func gcdLimbs(a, b uint64) uint64 {
	for b != 0 {
		a, b = b, a%b
	}
	return a
}

// shrink takes Euclid's steps till the lower number, b, has one limb at most. It works in the memory of both.
// A division of long numbers a step would be slow; so many steps at once are worked out on the highest limbs alone (Lehmer's way).
func shrink(a, b api.Nat) (api.Nat, api.Nat) {
	for len(b) > 1 {
		if s := simulate(leading(a, b)); s.moves() {
			a, b = s.apply(a, b)
		} else {
			_, rest := divide(a, b)
			a, b = b, rest
		}
	}
	return a, b
}

// leading is the highest 64 bits of a, and the bits of b at the same places. a is not below b, which has two limbs at least.
func leading(a, b api.Nat) (uint64, uint64) {
	n := len(a)
	shift := bits.LeadingZeros64(a[n-1])
	high := a[n-1]<<shift | a[n-2]>>(limbBits-shift)
	switch len(b) {
	case n:
		return high, b[n-1]<<shift | b[n-2]>>(limbBits-shift)
	case n - 1:
		return high, b[n-2] >> (limbBits - shift)
	}
	return high, 0
}

// strides are the factors by which Euclid's steps make two numbers of a and b: u0 a and v0 b, u1 a and v1 b, one less the other.
// Where even is set, the first number is u0 a - v0 b and the second v1 b - u1 a; else both are turned round.
type strides struct {
	u0, v0, u1, v1 uint64
	even           bool
}

// simulate takes steps on leading bits, as long as their quotients are sure to be those of the whole numbers (Collins's condition).
func simulate(a, b uint64) strides {
	s := strides{u1: 1}
	var u2, v2 uint64 = 0, 1
	for b >= v2 && a-b >= s.v1+v2 {
		q := a / b
		a, b = b, a%b
		s.u0, s.u1, u2 = s.u1, u2, s.u1+q*u2
		s.v0, s.v1, v2 = s.v1, v2, s.v1+q*v2
		s.even = !s.even
	}
	return s
}

// moves tells whether there is a step among them.
func (s strides) moves() bool { return s.v0 != 0 }

// apply works both numbers out, in the memory of a and b. Neither comes out above b, so that as many limbs as b has are all that matters.
func (s strides) apply(a, b api.Nat) (api.Nat, api.Nat) {
	a = a[:len(b)]
	x, y := a, b
	if !s.even {
		x, y, s = b, a, s.turned()
	}
	first := difference{by: s.u0, less: s.v0}
	second := difference{by: s.v1, less: s.u1}
	for i := range b {
		p, q := x[i], y[i]
		a[i], b[i] = first.next(p, q), second.next(q, p)
	}
	return trim(a), trim(b)
}

func (s strides) turned() strides {
	return strides{u0: s.v0, v0: s.u0, u1: s.v1, v1: s.u1}
}

// difference is one number times by, less another one times less, limb by limb from the lowest on.
type difference struct {
	by, less         uint64
	carry, lessCarry uint64
	borrow           uint64
}

func (d *difference) next(x, y uint64) uint64 {
	var from, take uint64
	d.carry, from = mulAdd(d.by, x, d.carry)
	d.lessCarry, take = mulAdd(d.less, y, d.lessCarry)
	from, d.borrow = bits.Sub64(from, take, d.borrow)
	return from
}
