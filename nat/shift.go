package nat

import "tribunal/api"

// Shl is a times 2 to the n.
func Shl(a api.Nat, n int) (api.Nat, api.Errno) {
	a = trim(a)
	switch {
	case n < 0:
		return nil, api.ErrArg
	case tooLong(a):
		return nil, api.ErrBig
	case len(a) == 0:
		return nil, api.OK
	case n > api.MaxLimbs*limbBits-Len(a): // asked first, lest memory is taken for it
		return nil, api.ErrBig
	}
	out := make(api.Nat, n/limbBits+len(a)+1)
	shiftUp(out[n/limbBits:], a, n%limbBits)
	return settle(out), api.OK
}

// Shr is a by 2 to the n, cut.
func Shr(a api.Nat, n int) (api.Nat, api.Errno) {
	a = trim(a)
	switch {
	case n < 0:
		return nil, api.ErrArg
	case tooLong(a):
		return nil, api.ErrBig
	case n/limbBits >= len(a):
		return nil, api.OK
	}
	a = a[n/limbBits:]
	out := make(api.Nat, len(a))
	shiftDown(out, a, n%limbBits)
	return settle(out), api.OK
}

// shiftUp puts a, shifted by fewer bits than a limb has, into out, which has a limb more.
func shiftUp(out, a api.Nat, n int) {
	var carry uint64
	for i, x := range a {
		out[i] = x<<n | carry
		carry = x >> (limbBits - n)
	}
	out[len(a)] = carry
}

// shiftDown is the same to the other side; out has as many limbs as a, and may be a.
func shiftDown(out, a api.Nat, n int) {
	var carry uint64
	for i := len(a) - 1; i >= 0; i-- {
		x := a[i]
		out[i] = x>>n | carry
		carry = x << (limbBits - n)
	}
}
