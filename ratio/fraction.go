package ratio

import (
	"tribunal/api"
	"tribunal/nat"
	"tribunal/whole"
)

// number is a whole number, canonical.
type number api.Int

func (n number) zero() bool { return len(n.Mag) == 0 }

func (n number) cmp(m number) int { return whole.Cmp(api.Int(n), api.Int(m)) }

// times and add have no error to look at: what is reckoned with has MaxRat limbs at most, and is multiplied once and added once ahead of being asked whether it is long. That is far from what whole can't hold.
func (n number) times(m number) number {
	product, _ := whole.Mul(api.Int(n), api.Int(m))
	return number(product)
}

func (n number) add(m number) number {
	sum, _ := whole.Add(api.Int(n), api.Int(m))
	return number(sum)
}

// fraction is one in the making: a whole number by den, which is above 0 and has no zeros on top. It may not be in lowest terms.
type fraction struct {
	number
	den api.Nat
}

// read is a in a form to reckon with. It shares memory with a: it may be worked with, not answered.
func read(a api.Rat) fraction {
	num := number{Mag: trimmed(a.Num.Mag)}
	num.Neg = a.Num.Neg && !num.zero()
	return fraction{num, trimmed(a.Den)}
}

// below is the denominator as a whole number.
func (f fraction) below() number { return number{Mag: f.den} }

func (f fraction) long() bool { return len(f.Mag) > api.MaxRat || len(f.den) > api.MaxRat }

func (f fraction) plus(g fraction) fraction {
	sum := f.times(g.below()).add(g.times(f.below()))
	return fraction{sum, f.below().times(g.below()).Mag}
}

func (f fraction) by(g fraction) fraction {
	return fraction{f.times(g.number), f.below().times(g.below()).Mag}
}

// lowest is f in lowest terms, in new memory.
func (f fraction) lowest() fraction {
	divisor, _ := nat.Gcd(f.Mag, f.den)
	if isOne(divisor) {
		return fraction{number{f.Neg, fresh(f.Mag)}, fresh(f.den)}
	}
	num, _, _ := nat.Quo(f.Mag, divisor)
	den, _, _ := nat.Quo(f.den, divisor)
	return fraction{number{f.Neg, num}, den}
}

// rat is f as it is answered.
func (f fraction) rat() api.Rat { return api.Rat{Num: api.Int(f.number), Den: f.den} }

func isOne(a api.Nat) bool { return len(a) == 1 && a[0] == 1 }

// fresh is a in memory of its own.
func fresh(a api.Nat) api.Nat { return append(api.Nat(nil), a...) }

// trimmed leaves the zeros on top out. It shares memory with a.
func trimmed(a api.Nat) api.Nat {
	n := len(a)
	for n > 0 && a[n-1] == 0 {
		n--
	}
	return a[:n]
}
