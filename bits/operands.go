package bits

import (
	"tribunal/api"
	"tribunal/nat"
)

// operands are what an operator is applied to.
type operands struct {
	params []int
	args   []api.Bits
}

func (x operands) first() api.Bits { return x.args[0] }

func (x operands) last() api.Bits { return x.args[len(x.args)-1] }

// u and v are the numbers of the first and the last argument, s and t their signed numbers. All may share memory with them.
func (x operands) u() api.Int { return unsigned(x.first()) }
func (x operands) v() api.Int { return unsigned(x.last()) }
func (x operands) s() api.Int { return signed(x.first()) }
func (x operands) t() api.Int { return signed(x.last()) }

// shift is by how many bits the last argument shifts the first one: no more than there are make a difference.
func (x operands) shift() int {
	w := x.first().Width
	n, ok := nat.Small(x.last().Val)
	if !ok || n > uint64(w) {
		return w
	}
	return int(n)
}

// What follows are the widths of answers.

func together(x operands) int { return x.first().Width + x.last().Width }

// between is no width if there is no such bit.
func between(x operands) int {
	if x.params[0] >= x.first().Width {
		return 0
	}
	return x.params[0] - x.params[1] + 1
}

func one(operands) int { return 1 }

func timesOver(x operands) int { return x.first().Width * x.params[0] }

func extended(x operands) int { return x.first().Width + x.params[0] }
