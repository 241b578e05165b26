package ratio

import (
	"math/bits"

	"tribunal/api"
	"tribunal/nat"
)

// steps are the factors by which some of Euclid's steps make of two numbers the next two: a times the one and b times the other, and c and d times.
type steps struct{ a, b, c, d int64 }

func noSteps() steps { return steps{a: 1, d: 1} }

func (s steps) moves() bool { return s != noSteps() }

// leadBits is how many binary digits sureSteps looks at: with one to spare, nothing overflows an int64.
const leadBits = 62

// sureSteps is as many steps as are known by the highest digits alone (Lehmer's way): a step at a time would be slow.
// a, which has more digits than are looked at, is not below b.
func sureSteps(a, b api.Nat) steps {
	cut := nat.Len(a) - leadBits
	x, y := lead(a, cut), lead(b, cut)
	s := noSteps()
	// The steps go on as long as both ends of where the ratio of a and b lies have one quotient.
	for y+s.c != 0 && y+s.d != 0 {
		quo := (x + s.a) / (y + s.c)
		if quo != (x+s.b)/(y+s.d) {
			break
		}
		s = steps{s.c, s.d, s.a - quo*s.c, s.b - quo*s.d}
		x, y = y, x-quo*y
	}
	return s
}

// lead is a by 2 to the cut, which leaves no more than leadBits digits.
func lead(a api.Nat, cut int) int64 {
	i, n := cut/64, cut%64
	return int64(limb(a, i)>>n | limb(a, i+1)<<(64-n))
}

func limb(a api.Nat, i int) uint64 {
	if i < len(a) {
		return a[i]
	}
	return 0
}

// apply takes the steps, in the memory of x and y; x is not below y.
func (s steps) apply(x, y api.Nat) (api.Nat, api.Nat) {
	y = append(y, make(api.Nat, len(x)-len(y))...)
	first, second := mix{a: s.a, b: s.b}, mix{a: s.c, b: s.d}
	for i := range x {
		x[i], y[i] = first.next(x[i], y[i]), second.next(x[i], y[i])
	}
	return trimmed(x), trimmed(y)
}

// mix is a times one number and b times another, limb by limb from the lowest on; what is carried may be below 0.
type mix struct{ a, b, carry int64 }

func (m *mix) next(x, y uint64) uint64 {
	high, low := timesSigned(x, m.a)
	moreHigh, moreLow := timesSigned(y, m.b)
	low, over := bits.Add64(low, moreLow, 0)
	high += moreHigh + int64(over)
	low, over = bits.Add64(low, uint64(m.carry), 0)
	m.carry = high + m.carry>>63 + int64(over)
	return low
}

// timesSigned is a limb times a number of either sign, the high limb with the sign.
func timesSigned(x uint64, by int64) (int64, uint64) {
	high, low := bits.Mul64(x, uint64(by))
	return int64(high) - int64(x)&(by>>63), low
}
