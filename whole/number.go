package whole

import (
	"tribunal/api"
	"tribunal/nat"
)

// amount is a number without its sign: its limbs, without zeros on top. It may be long, where nat takes none that is.
type amount api.Nat

func (a amount) limbs() api.Nat { return api.Nat(a) }

func (a amount) zero() bool { return len(a) == 0 }

func (a amount) long() bool { return len(a) > api.MaxLimbs }

func (a amount) cmp(b amount) int { return nat.Cmp(a.limbs(), b.limbs()) }

// trimmed leaves the zeros on top out. It shares memory with a.
func (a amount) trimmed() amount {
	n := len(a)
	for n > 0 && a[n-1] == 0 {
		n--
	}
	return a[:n]
}

// fresh is a in memory of its own.
func (a amount) fresh() amount { return append(amount(nil), a...) }

// number is an amount and its sign, which 0 has not.
type number struct {
	amount
	neg bool
}

func signed(a amount, neg bool) number { return number{a, neg && !a.zero()} }

// read is the number of a. It shares memory with a: it may be worked with, not answered.
func read(a api.Int) number { return signed(amount(a.Mag).trimmed(), a.Neg) }

// turned is the number with the other sign.
func (n number) turned() number { return signed(n.amount, !n.neg) }

// copied is the number in new memory, however long it is.
func (n number) copied() api.Int { return api.Int{Neg: n.neg, Mag: n.fresh().limbs()} }

// answer is a number that was worked out in new memory, if it is not too long.
func (n number) answer() (api.Int, api.Errno) {
	if n.long() {
		return api.Int{}, api.ErrBig
	}
	if n.zero() {
		return api.Int{}, api.OK
	}
	return api.Int{Neg: n.neg, Mag: n.limbs()}, api.OK
}
