package bits

import (
	"tribunal/api"
	"tribunal/nat"
	"tribunal/whole"
)

const limbBits = 64

func isWidth(w int) bool { return w >= 1 && w <= api.MaxWidth }

// vector is the vector of a number of any form and length, in new memory.
func vector(width int, n api.Int) api.Bits {
	val := make(api.Nat, limbsOf(width))
	copy(val, n.Mag) // the limbs above are a multiple of 2 to the width
	if n.Neg {
		negate(val)
	}
	return api.Bits{Width: width, Val: cut(val, width)}
}

// limbsOf is how many limbs so many bits fill.
func limbsOf(width int) int { return (width + limbBits - 1) / limbBits }

// negate takes val from 2 to all its bits, in place.
func negate(val api.Nat) {
	carry := uint64(1)
	for i, x := range val {
		val[i] = ^x + carry
		if val[i] != 0 {
			carry = 0
		}
	}
}

// cut leaves the bits from width on out, and the zeros on top, in the memory of val, whose limbs are those of the width.
func cut(val api.Nat, width int) api.Nat {
	val[len(val)-1] &= ^uint64(0) >> (len(val)*limbBits - width)
	n := len(val)
	for n > 0 && val[n-1] == 0 {
		n--
	}
	if n == 0 {
		return nil
	}
	return val[:n]
}

// unsigned is the number of a vector. It shares memory with it.
func unsigned(b api.Bits) api.Int { return api.Int{Mag: b.Val} }

// signed is the signed number of a vector. It may share memory with it.
func signed(b api.Bits) api.Int {
	n := unsigned(b)
	if nat.Bit(b.Val, b.Width-1) {
		n, _ = whole.Sub(n, power(b.Width))
	}
	return n
}

// power is 2 to the n.
func power(n int) api.Int {
	p, _ := nat.Shl(nat.Of(1), n)
	return api.Int{Mag: p}
}
