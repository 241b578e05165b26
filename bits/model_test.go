package bits_test

import (
	"math/big"
	"strings"

	"tribunal/api"
)

// This is a plain model of the chapter's table: vectors are rows of bits as texts, the highest first, worked on by texts and by math/big.

// unary, binary and turning are the Ops by what they take: one vector; two; one, and one param.
var (
	unary  = []api.Op{api.OBvNot, api.OBvNeg}
	binary = []api.Op{
		api.OBvAnd, api.OBvOr, api.OBvXor, api.OBvNand, api.OBvNor, api.OBvXnor, api.OBvComp, api.OBvAdd, api.OBvSub, api.OBvMul,
		api.OBvUdiv, api.OBvUrem, api.OBvSdiv, api.OBvSrem, api.OBvSmod, api.OBvShl, api.OBvLshr, api.OBvAshr,
	}
	turning = []api.Op{api.ORepeat, api.OZeroExt, api.OSignExt, api.ORotL, api.ORotR}
	ordered = []api.Op{api.OBvUlt, api.OBvUle, api.OBvUgt, api.OBvUge, api.OBvSlt, api.OBvSle, api.OBvSgt, api.OBvSge}
)

func ofOne(op api.Op, a string) string {
	if op == api.OBvNot {
		return strings.NewReplacer("0", "1", "1", "0").Replace(a)
	}
	return wide(len(a), new(big.Int).Neg(unsigned(a)))
}

func ofTwo(op api.Op, a, b string) string {
	switch op {
	case api.OConcat:
		return a + b
	case api.OBvAnd, api.OBvOr, api.OBvXor, api.OBvNand, api.OBvNor, api.OBvXnor:
		return bitByBit(op, a, b)
	case api.OBvComp:
		if a == b {
			return "1"
		}
		return "0"
	case api.OBvShl, api.OBvLshr, api.OBvAshr:
		return shifted(op, a, b)
	}
	return wide(len(a), numberOfTwo(op, a, b))
}

func bitByBit(op api.Op, a, b string) string {
	out := make([]byte, len(a))
	for i := range out {
		x, y := a[i] == '1', b[i] == '1'
		var z bool
		switch op {
		case api.OBvAnd:
			z = x && y
		case api.OBvOr:
			z = x || y
		case api.OBvXor:
			z = x != y
		case api.OBvNand:
			z = !(x && y)
		case api.OBvNor:
			z = !(x || y)
		case api.OBvXnor:
			z = x == y
		}
		out[i] = '0'
		if z {
			out[i] = '1'
		}
	}
	return string(out)
}

func shifted(op api.Op, a, b string) string {
	w := len(a)
	n := w
	if v := unsigned(b); v.Cmp(big.NewInt(int64(w))) < 0 {
		n = int(v.Int64())
	}
	switch op {
	case api.OBvShl:
		return a[n:] + strings.Repeat("0", n)
	case api.OBvLshr:
		return strings.Repeat("0", n) + a[:w-n]
	}
	return strings.Repeat(a[:1], n) + a[:w-n]
}

func numberOfTwo(op api.Op, a, b string) *big.Int {
	out, u, v, s, t := new(big.Int), unsigned(a), unsigned(b), signed(a), signed(b)
	byZero := v.Sign() == 0
	switch op {
	case api.OBvAdd:
		return out.Add(u, v)
	case api.OBvSub:
		return out.Sub(u, v)
	case api.OBvMul:
		return out.Mul(u, v)
	case api.OBvUdiv:
		if byZero {
			return out.Sub(pow(len(a)), big.NewInt(1))
		}
		return out.Quo(u, v)
	case api.OBvUrem:
		if byZero {
			return u
		}
		return out.Rem(u, v)
	case api.OBvSdiv:
		if byZero && s.Sign() < 0 {
			return big.NewInt(1)
		} else if byZero {
			return big.NewInt(-1)
		}
		return out.Quo(s, t)
	case api.OBvSrem:
		if byZero {
			return s
		}
		return out.Rem(s, t)
	case api.OBvSmod:
		if byZero {
			return s
		}
		return out.Sub(s, out.Mul(t, floor(s, t)))
	}
	panic("no Op of two numbers")
}

// floor is s / t rounded down: cut, and 1 less where that is too much.
func floor(s, t *big.Int) *big.Int {
	quo, rest := new(big.Int).QuoRem(s, t, new(big.Int))
	if rest.Sign() != 0 && rest.Sign() != t.Sign() {
		quo.Sub(quo, big.NewInt(1))
	}
	return quo
}

func ofParam(op api.Op, k int, a string) string {
	n := k % len(a)
	switch op {
	case api.ORepeat:
		return strings.Repeat(a, k)
	case api.OZeroExt:
		return strings.Repeat("0", k) + a
	case api.OSignExt:
		return strings.Repeat(a[:1], k) + a
	case api.ORotL:
		return a[n:] + a[:n]
	case api.ORotR:
		return a[len(a)-n:] + a[:len(a)-n]
	}
	panic("no Op of a param")
}

func cutOut(h, l int, a string) string { return a[len(a)-1-h : len(a)-l] }

func stands(op api.Op, a, b string) bool {
	cmp := unsigned(a).Cmp(unsigned(b))
	if op >= api.OBvSlt {
		cmp = signed(a).Cmp(signed(b))
	}
	switch op {
	case api.OBvUlt, api.OBvSlt:
		return cmp == -1
	case api.OBvUle, api.OBvSle:
		return cmp != 1
	case api.OBvUgt, api.OBvSgt:
		return cmp == 1
	}
	return cmp != -1
}
