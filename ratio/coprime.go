package ratio

import (
	"math/bits"

	"tribunal/api"
	"tribunal/nat"
)

// coprime tells whether two numbers without zeros on top have no common divisor but 1, however long they are.
func coprime(a, b api.Nat) bool {
	if !nat.Bit(a, 0) && !nat.Bit(b, 0) {
		return false
	}
	if longForNat(a, b) {
		a, b = shrunk(a, b)
	}
	divisor, err := nat.Gcd(a, b)
	return err == api.OK && isOne(divisor) // one that is still too long divides the other, which is 0
}

// longForNat tells whether one of both is longer than nat takes it.
func longForNat(a, b api.Nat) bool { return len(a) > api.MaxLimbs || len(b) > api.MaxLimbs }

// shrunk is two numbers that have the common divisors of a and b, not both of which are even: they are short enough for nat, or one is 0.
// Both are kept odd, since 2 is no common divisor: so no division from the top is needed, and each turn of the loop makes the numbers less.
func shrunk(a, b api.Nat) (api.Nat, api.Nat) {
	a, b = odd(fresh(a)), odd(fresh(b))
	for longForNat(a, b) && len(a) > 0 && len(b) > 0 {
		if nat.Cmp(a, b) < 0 {
			a, b = b, a
		}
		if len(a) > len(b)+1 {
			a = fold(a, b)
		} else if s := sureSteps(a, b); s.moves() {
			a, b = s.apply(a, b)
		} else {
			a = less(a, b)
		}
		a, b = odd(a), odd(b)
	}
	return a, b
}

// odd divides a by 2 as often as that goes, in the memory of a; 0 stays 0.
func odd(a api.Nat) api.Nat {
	for len(a) > 0 && a[0] == 0 {
		a = a[1:]
	}
	if len(a) == 0 || a[0]&1 == 1 {
		return a
	}
	n := bits.TrailingZeros64(a[0])
	var carry uint64
	for i := len(a) - 1; i >= 0; i-- {
		x := a[i]
		a[i] = x>>n | carry
		carry = x << (64 - n)
	}
	return trimmed(a)
}

// less is a less b, which is not above it, in the memory of a.
func less(a, b api.Nat) api.Nat {
	var borrow uint64
	for i, x := range b {
		a[i], borrow = bits.Sub64(a[i], x, borrow)
	}
	for i := len(b); borrow != 0; i++ {
		a[i], borrow = bits.Sub64(a[i], 0, borrow)
	}
	return trimmed(a)
}

// fold makes a about as short as b, in the memory of a: such multiples of b are added that the lowest limbs come to 0, and these are left out. b is odd.
func fold(a, b api.Nat) api.Nat {
	by := -inverse(b[0])
	a = append(a, 0) // room for what is carried
	for len(a) > len(b)+2 {
		addTimes(a, b, a[0]*by)
		a = a[1:]
	}
	return trimmed(a)
}

// addTimes adds x times b to sum, in place; there is room.
func addTimes(sum, b api.Nat, x uint64) {
	var carry uint64
	for i, y := range b {
		high, low := bits.Mul64(x, y)
		low, over := bits.Add64(low, carry, 0)
		high += over
		sum[i], over = bits.Add64(sum[i], low, 0)
		carry = high + over
	}
	for i := len(b); carry != 0; i++ {
		sum[i], carry = bits.Add64(sum[i], carry, 0)
	}
}

// inverse is what an odd x is multiplied with to get 1, as limbs wrap round. x itself is right in 3 bits, and each step doubles them.
func inverse(x uint64) uint64 {
	y := x
	for range 5 {
		y *= 2 - x*y
	}
	return y
}
