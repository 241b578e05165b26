package bits

import (
	"tribunal/api"
	"tribunal/whole"
)

// These are the operators that take vectors as numbers. None of their numbers is long.

func neg(x operands) api.Int { return whole.Neg(x.u()) }

func add(x operands) api.Int {
	n, _ := whole.Add(x.u(), x.v())
	return n
}

func sub(x operands) api.Int {
	n, _ := whole.Sub(x.u(), x.v())
	return n
}

func mul(x operands) api.Int {
	n, _ := whole.Mul(x.u(), x.v())
	return n
}

func comp(x operands) api.Int {
	if whole.Cmp(x.u(), x.v()) == 0 {
		return whole.Of(1)
	}
	return whole.Of(0)
}

func udiv(x operands) api.Int {
	if isZero(x.v()) {
		return whole.Of(-1)
	}
	quo, _, _ := whole.Quo(x.u(), x.v())
	return quo
}

func urem(x operands) api.Int { return left(x.u(), x.v()) }

func sdiv(x operands) api.Int {
	s, t := x.s(), x.t()
	switch {
	case !isZero(t):
		quo, _, _ := whole.Quo(s, t)
		return quo
	case whole.Sign(s) < 0:
		return whole.Of(1)
	}
	return whole.Of(-1)
}

func srem(x operands) api.Int { return left(x.s(), x.t()) }

func smod(x operands) api.Int {
	t := x.t()
	rest := left(x.s(), t)
	if whole.Sign(rest)*whole.Sign(t) < 0 { // the quotient rounded down is 1 below the one that is cut
		rest, _ = whole.Add(rest, t)
	}
	return rest
}

// left is what the quotient cut leaves of a; all of it by 0.
func left(a, b api.Int) api.Int {
	if isZero(b) {
		return a
	}
	_, rest, _ := whole.Quo(a, b)
	return rest
}

func isZero(n api.Int) bool { return whole.Sign(n) == 0 }

func ashr(x operands) api.Int {
	n, _ := whole.Floor(x.s(), power(x.shift()))
	return n
}
