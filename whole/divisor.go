package whole

import (
	"tribunal/api"
	"tribunal/nat"
)

// Gcd is the greatest number that divides all; 0, if all are 0 or there is none.
func Gcd(l ...api.Int) (api.Int, api.Errno) {
	for _, a := range l {
		if read(a).long() {
			return api.Int{}, api.ErrBig
		}
	}
	var divisor api.Nat
	for _, a := range l {
		divisor, _ = nat.Gcd(divisor, a.Mag)
	}
	return api.Int{Mag: divisor}, api.OK
}

// Extended is g, x and y, with g = a x + b y, as Euclid's rows come to them.
func Extended(a, b api.Int) (api.Int, api.Int, api.Int, api.Errno) {
	if read(a).long() || read(b).long() {
		return api.Int{}, api.Int{}, api.Int{}, api.ErrBig
	}
	r := rows{row{Abs(a), Of(1), Of(0)}, row{Abs(b), Of(0), Of(1)}}
	for Sign(r.second[0]) != 0 {
		r = r.next()
	}
	g, x, y := r.first[0], r.first[1], r.first[2]
	if Sign(a) < 0 {
		x = Neg(x)
	}
	if Sign(b) < 0 {
		y = Neg(y)
	}
	return g, x, y, api.OK
}

// row is a number, and how many times the one and the other of the first two numbers it is.
// None of the three has an amount above the greater of those two, or above 1: none is too long.
type row [3]api.Int

type rows struct{ first, second row }

// next takes Euclid's next step, or many at once, where the highest digits are enough to know them: a division of long numbers a step would be slow.
func (r rows) next() rows {
	if s := r.sureSteps(); s.moves() {
		return rows{r.mixed(Of(s.a), Of(s.b)), r.mixed(Of(s.c), Of(s.d))}
	}
	quo, _, _ := Quo(r.first[0], r.second[0])
	return rows{r.second, r.mixed(Of(1), Neg(quo))}
}

// mixed is x times the first row and y times the second.
// There are no errors to look at: the row is one of Euclid's, and sureSteps has no factors that make products too long.
func (r rows) mixed(x, y api.Int) row {
	var mix row
	for i := range mix {
		up, _ := Mul(x, r.first[i])
		down, _ := Mul(y, r.second[i])
		mix[i], _ = Add(up, down)
	}
	return mix
}

// leadBits is how many binary digits of both numbers sureSteps looks at: with one to spare, nothing overflows an int64.
const leadBits = 62

// sureSteps is as many steps as are known by the highest digits of both numbers alone (Lehmer's way).
func (r rows) sureSteps() steps {
	first, second := r.first[0].Mag, r.second[0].Mag
	length := max(nat.Len(first), nat.Len(second))
	if length > 64*api.MaxLimbs-leadBits {
		return noSteps()
	}
	cut := max(length-leadBits, 0)
	return walk(lead(first, cut), lead(second, cut), int64(min(cut, 1)))
}

func lead(a api.Nat, cut int) int64 {
	a, _ = nat.Shr(a, cut)
	n, _ := nat.Small(a)
	return int64(n)
}

// steps are the factors by which some of Euclid's steps make of two numbers the next two: a times the one and b times the other, and c and d times.
type steps struct{ a, b, c, d int64 }

func noSteps() steps { return steps{a: 1, d: 1} }

func (s steps) moves() bool { return s != noSteps() }

// walk takes steps on x and y, each of which stands for a number that is less than slack above it (or is it, if slack is 0).
// It goes on as long as both ends of where their ratio lies have one quotient, which is then that of the numbers.
func walk(x, y, slack int64) steps {
	s := noSteps()
	for y+slack*s.c != 0 && y+slack*s.d != 0 {
		quo := (x + slack*s.a) / (y + slack*s.c)
		if quo != (x+slack*s.b)/(y+slack*s.d) {
			break
		}
		s = steps{s.c, s.d, s.a - quo*s.c, s.b - quo*s.d}
		x, y = y, x-quo*y
	}
	return s
}
