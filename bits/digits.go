package bits

import (
	"tribunal/api"
	"tribunal/nat"
	"tribunal/whole"
)

// These are the operators that take vectors as rows of bits. What they set above the answer's width is left out of the vector.

// not is -1, which is all bits, less u: nothing is borrowed.
func not(x operands) api.Int {
	n, _ := whole.Sub(whole.Of(-1), x.u())
	return n
}

func and(x operands) api.Int { return x.bitwise(func(u, v uint64) uint64 { return u & v }) }

func or(x operands) api.Int { return x.bitwise(func(u, v uint64) uint64 { return u | v }) }

func xor(x operands) api.Int { return x.bitwise(func(u, v uint64) uint64 { return u ^ v }) }

func nand(x operands) api.Int { return x.bitwise(func(u, v uint64) uint64 { return ^(u & v) }) }

func nor(x operands) api.Int { return x.bitwise(func(u, v uint64) uint64 { return ^(u | v) }) }

func xnor(x operands) api.Int { return x.bitwise(func(u, v uint64) uint64 { return ^(u ^ v) }) }

// bitwise asks limb by limb.
func (x operands) bitwise(limb func(u, v uint64) uint64) api.Int {
	out := make(api.Nat, limbsOf(x.first().Width))
	for i := range out {
		out[i] = limb(limbAt(x.first().Val, i), limbAt(x.last().Val, i))
	}
	return api.Int{Mag: out}
}

func limbAt(a api.Nat, i int) uint64 {
	if i < len(a) {
		return a[i]
	}
	return 0
}

func concat(x operands) api.Int {
	return amount(joined(x.first().Val, x.last().Val, x.last().Width))
}

func extract(x operands) api.Int { return amount(down(x.first().Val, x.params[1])) }

func shl(x operands) api.Int { return amount(up(x.first().Val, x.shift())) }

func lshr(x operands) api.Int { return amount(down(x.first().Val, x.shift())) }

func repeat(x operands) api.Int {
	return amount(repeated(x.first().Val, x.first().Width, x.params[0]))
}

// repeated is a, of w bits, so many times behind itself: as its halves are alike, each is worked out once.
func repeated(a api.Nat, w, times int) api.Nat {
	if times == 1 {
		return a
	}
	half := repeated(a, w, times/2)
	out := joined(half, half, w*(times/2))
	if times%2 == 1 {
		out = joined(out, a, w)
	}
	return out
}

func rotL(x operands) api.Int { return x.rotated(x.params[0] % x.first().Width) }

func rotR(x operands) api.Int {
	w := x.first().Width
	return x.rotated(w - x.params[0]%w)
}

// rotated is the first argument turned n bits to the left, n being no more than its width.
func (x operands) rotated(n int) api.Int {
	a := x.first()
	return amount(joined(a.Val, down(a.Val, a.Width-n), n))
}

// joined is a, and low, of w bits, behind it.
func joined(a, low api.Nat, w int) api.Nat {
	out, _ := nat.Add(up(a, w), low)
	return out
}

func up(a api.Nat, n int) api.Nat {
	out, _ := nat.Shl(a, n)
	return out
}

func down(a api.Nat, n int) api.Nat {
	out, _ := nat.Shr(a, n)
	return out
}

func amount(a api.Nat) api.Int { return api.Int{Mag: a} }
