package ratio_test

import (
	"math/big"
	"slices"
	"testing"

	"tribunal/api"
	"tribunal/ratio"
)

// These are the tests of the order of errors, and of the rules that hold everywhere.

// call is one of the calls on two fractions, with what it answers: all fractions, and the whole numbers as fractions by 1.
type call struct {
	name string
	two  bool // takes b too
	do   func(a, b api.Rat) (api.Rat, api.Errno)
}

func calls() []call {
	return []call{
		{"Cmp(a, b)", true, func(a, b api.Rat) (api.Rat, api.Errno) {
			order, err := ratio.Cmp(a, b)
			if order != 0 {
				return by(intOf(big.NewInt(int64(order))), api.Nat{1}), err
			}
			return api.Rat{}, err
		}},
		{"Add(a)", false, func(a, b api.Rat) (api.Rat, api.Errno) { return ratio.Add(a) }},
		{"Add(a, b)", true, func(a, b api.Rat) (api.Rat, api.Errno) { return ratio.Add(a, b) }},
		{"Add(0, a, b, a)", true, func(a, b api.Rat) (api.Rat, api.Errno) { return ratio.Add(ratOf(0, 1), a, b, a) }},
		{"Sub(a, b)", true, func(a, b api.Rat) (api.Rat, api.Errno) { return ratio.Sub(a, b) }},
		{"Mul(a)", false, func(a, b api.Rat) (api.Rat, api.Errno) { return ratio.Mul(a) }},
		{"Mul(a, b)", true, func(a, b api.Rat) (api.Rat, api.Errno) { return ratio.Mul(a, b) }},
		{"Mul(b, 1, a)", true, func(a, b api.Rat) (api.Rat, api.Errno) { return ratio.Mul(b, ratOf(1, 1), a) }},
		{"Quo(a, b)", true, func(a, b api.Rat) (api.Rat, api.Errno) { return ratio.Quo(a, b) }},
		{"Quo(a, 1)", false, func(a, b api.Rat) (api.Rat, api.Errno) { return ratio.Quo(a, ratOf(1, 1)) }},
		{"Quo(1, a)", false, func(a, b api.Rat) (api.Rat, api.Errno) { return ratio.Quo(ratOf(1, 1), a) }},
		{"Neg(a)", false, func(a, b api.Rat) (api.Rat, api.Errno) { return ratio.Neg(a) }},
		{"Floor(a)", false, func(a, b api.Rat) (api.Rat, api.Errno) { return asRat(ratio.Floor(a)) }},
		{"Ceil(a)", false, func(a, b api.Rat) (api.Rat, api.Errno) { return asRat(ratio.Ceil(a)) }},
		{"Text(a)", false, func(a, b api.Rat) (api.Rat, api.Errno) {
			s, err := ratio.Text(a)
			if err != api.OK {
				return by(api.Int{Mag: make(api.Nat, len(s))}, nil), err
			}
			return ratio.Parse(s)
		}},
	}
}

func asRat(n api.Int, err api.Errno) (api.Rat, api.Errno) {
	if err != api.OK {
		return by(n, nil), err
	}
	return by(n, api.Nat{1}), err
}

// None comes ahead of long, long of a division by 0, wherever in the arguments either stands.
func TestOrderOfErrors(t *testing.T) {
	good, zero := ratOf(-6, 4), ratOf(0, 3)
	for _, c := range calls() {
		expect := func(a, b api.Rat, want api.Errno) {
			t.Helper()
			got, err := c.do(a, b)
			fails(t, c.name+" of "+brief(a)+" and "+brief(b), got, err, want)
		}
		for _, bad := range none() {
			expect(bad, good, api.ErrZero)
			expect(bad, zero, api.ErrZero)
			if c.two {
				expect(good, bad, api.ErrZero)
				expect(zero, bad, api.ErrZero)
				expect(bad, bad, api.ErrZero)
			}
			for _, big := range long() {
				expect(bad, big, api.ErrZero)
				if c.two {
					expect(big, bad, api.ErrZero)
				}
			}
		}
		for _, big := range long() {
			expect(big, good, api.ErrBig)
			expect(big, zero, api.ErrBig)
			if c.two {
				expect(good, big, api.ErrBig)
				expect(zero, big, api.ErrBig)
				expect(big, big, api.ErrBig)
			}
		}
	}
}

// Every argument is asked ahead of the first sum or product.
func TestOrderOfErrorsInLists(t *testing.T) {
	great := by(api.Int{Mag: most()}, api.Nat{1})
	for _, bad := range none() {
		for _, l := range [][]api.Rat{{bad}, {great, great, bad}, {bad, long()[0]}, {long()[0], bad}, {ratOf(0, 1), ratOf(1, 2), bad}, {great, long()[3], bad, great}} {
			got, err := ratio.Add(l...)
			fails(t, "Add", got, err, api.ErrZero)
			got, err = ratio.Mul(l...)
			fails(t, "Mul", got, err, api.ErrZero)
		}
	}
	for _, big := range long() {
		for _, l := range [][]api.Rat{{big}, {big, turned(big)}, {ratOf(0, 1), big}, {ratOf(1, 2), ratOf(1, 3), big}} {
			got, err := ratio.Add(l...)
			fails(t, "Add", got, err, api.ErrBig)
			got, err = ratio.Mul(l...)
			fails(t, "Mul", got, err, api.ErrBig)
		}
	}
}

func TestNoCallPanics(t *testing.T) {
	list := slices.Concat(samples(), none(), long()[:3], greats()[:4])
	for _, c := range calls() {
		for _, a := range list {
			for i := 0; i < len(list) && (c.two || i == 0); i++ {
				callSafely(t, c, a, list[i])
			}
			ratio.Right(a)
			ratio.Int(a)
		}
	}
}

func callSafely(t *testing.T, c call, a, b api.Rat) {
	defer func() {
		if p := recover(); p != nil {
			t.Errorf("%s of %s and %s panics: %v", c.name, brief(a), brief(b), p)
		}
	}()
	c.do(a, b)
}

// roomy is a fraction whose limbs have room to spare, which is not zero; and its limbs with that room.
func roomy(a api.Rat) (api.Rat, [2]api.Nat) {
	num, den := append(slices.Clone(a.Num.Mag), 11, 22, 33), append(slices.Clone(a.Den), 44, 55)
	return by(api.Int{Neg: a.Num.Neg, Mag: num[:len(a.Num.Mag)]}, den[:len(a.Den)]), [2]api.Nat{num, den}
}

func same(a, b api.Rat) bool {
	return a.Num.Neg == b.Num.Neg && slices.Equal(a.Num.Mag, b.Num.Mag) && slices.Equal(a.Den, b.Den)
}

// spoil writes over all the memory of a list, spare room too.
func spoil(a api.Nat) {
	all := a[:cap(a)]
	for i := range all {
		all[i] = 0xdead
	}
}

// What is handed in is not changed, and no answer shares memory with it, nor its numerator with its denominator, spare room included.
func TestMemory(t *testing.T) {
	over := by(api.Int{Mag: ones(api.MaxLimbs + 1)}, off(ones(api.MaxLimbs+1), -3))
	list := slices.Concat(samples(), greats()[:3])
	for _, c := range calls() {
		for i, x := range list {
			checkMemory(t, c, x, list[(i*7+3)%len(list)])
			checkMemory(t, c, x, x)
		}
	}
	for _, x := range append(list, over, turned(over), by(plus(), api.Nat{1}), by(plus(3), ones(5000))) {
		a, rooms := roomy(x)
		was := [2]api.Nat{slices.Clone(rooms[0]), slices.Clone(rooms[1])}
		ratio.Right(a)
		n, _ := ratio.Int(a)
		whole, err := ratio.Whole(a.Num)
		of, _ := ratio.Of(a.Num, api.Int{Neg: true, Mag: a.Den})
		for _, answer := range []api.Nat{n.Mag, whole.Num.Mag, whole.Den, of.Num.Mag, of.Den} {
			spoil(answer)
		}
		if again, err2 := ratio.Whole(a.Num); err != err2 || err == api.OK && again.Den[0] != 1 {
			t.Errorf("Whole(%s): another answer the second time", brief(x))
		}
		if !slices.Equal(rooms[0], was[0]) || !slices.Equal(rooms[1], was[1]) {
			t.Errorf("Right, Int, Whole or Of of %s: changed, or memory is shared", brief(x))
		}
	}
}

func checkMemory(t *testing.T, c call, x, y api.Rat) {
	t.Helper()
	a, roomA := roomy(x)
	b, roomB := roomy(y)
	rooms := [4]api.Nat{roomA[0], roomA[1], roomB[0], roomB[1]}
	var was [4]api.Nat
	for i, room := range rooms {
		was[i] = slices.Clone(room)
	}
	got, _ := c.do(a, b)
	before := by(api.Int{Neg: got.Num.Neg, Mag: slices.Clone(got.Num.Mag)}, slices.Clone(got.Den))
	spoil(got.Num.Mag)
	if !slices.Equal(got.Den, before.Den) {
		t.Fatalf("%s of %s and %s: the numerator shares memory with the denominator", c.name, brief(x), brief(y))
	}
	spoil(got.Den)
	for i, room := range rooms {
		if !slices.Equal(room, was[i]) {
			t.Fatalf("%s of %s and %s: changed, or memory is shared", c.name, brief(x), brief(y))
		}
	}
	if again, _ := c.do(a, b); !same(again, before) {
		t.Fatalf("%s of %s and %s: another answer the second time", c.name, brief(x), brief(y))
	}
}

// The list of a variadic call is an argument too.
func TestListsAreNotChanged(t *testing.T) {
	list := []api.Rat{ratOf(4, 2), by(minus(0), api.Nat{2, 0}), ratOf(-6, 4), ratOf(1, 3), by(plus(5, 0), api.Nat{7}), ratOf(2, 2)}
	was := slices.Clone(list)
	ratio.Add(list[:4]...)
	ratio.Mul(list[:4]...)
	ratio.Add(list[2:]...)
	for i, a := range list {
		if !same(a, was[i]) {
			t.Errorf("fraction %d of the list is changed: %v", i, a)
		}
	}
}

// A fraction has one and the same answers in all its forms.
func TestFormsHaveOneAnswer(t *testing.T) {
	for _, c := range calls() {
		for i, a := range samples() {
			b := samples()[(i*5+1)%len(samples())]
			want, err := c.do(a, b)
			got, err2 := c.do(grown(a, 12, 2), grown(b, top, 1))
			if err != err2 || !same(got, want) {
				t.Errorf("%s of %s and %s: another answer for another form", c.name, brief(a), brief(b))
			}
		}
	}
}
