package whole_test

import (
	"slices"
	"testing"

	"tribunal/api"
	"tribunal/whole"
)

// These are the tests of the rules that hold everywhere.

// call is one of the calls on two numbers, with all the numbers that it answers.
type call struct {
	name string
	do   func(a, b api.Int) []api.Int
}

func calls() []call {
	one := func(a api.Int, _ api.Errno) []api.Int { return []api.Int{a} }
	two := func(a, b api.Int, _ api.Errno) []api.Int { return []api.Int{a, b} }
	three := func(a, b, c api.Int, _ api.Errno) []api.Int { return []api.Int{a, b, c} }
	return []call{
		{"Small(a)", func(a, b api.Int) []api.Int { whole.Small(a); return nil }},
		{"Norm(a)", func(a, b api.Int) []api.Int { return []api.Int{whole.Norm(a)} }},
		{"Cmp(a, b)", func(a, b api.Int) []api.Int { whole.Cmp(a, b); return nil }},
		{"Sign(a)", func(a, b api.Int) []api.Int { whole.Sign(a); return nil }},
		{"Neg(a)", func(a, b api.Int) []api.Int { return []api.Int{whole.Neg(a)} }},
		{"Abs(a)", func(a, b api.Int) []api.Int { return []api.Int{whole.Abs(a)} }},
		{"Add(a, b)", func(a, b api.Int) []api.Int { return one(whole.Add(a, b)) }},
		{"Add(a, a)", func(a, b api.Int) []api.Int { return one(whole.Add(a, a)) }},
		{"Sub(a, b)", func(a, b api.Int) []api.Int { return one(whole.Sub(a, b)) }},
		{"Sub(a, a)", func(a, b api.Int) []api.Int { return one(whole.Sub(a, a)) }},
		{"Mul(a, b)", func(a, b api.Int) []api.Int { return one(whole.Mul(a, b)) }},
		{"Mul(a, 1)", func(a, b api.Int) []api.Int { return one(whole.Mul(a, plus(1))) }},
		{"Mul(-1, a)", func(a, b api.Int) []api.Int { return one(whole.Mul(minus(1), a)) }},
		{"Sum()", func(a, b api.Int) []api.Int { return one(whole.Sum()) }},
		{"Sum(a)", func(a, b api.Int) []api.Int { return one(whole.Sum(a)) }},
		{"Sum(a, b, a)", func(a, b api.Int) []api.Int { return one(whole.Sum(a, b, a)) }},
		{"Quo(a, b)", func(a, b api.Int) []api.Int { return two(whole.Quo(a, b)) }},
		{"Quo(a, a)", func(a, b api.Int) []api.Int { return two(whole.Quo(a, a)) }},
		{"Quo(a, 1)", func(a, b api.Int) []api.Int { return two(whole.Quo(a, plus(1))) }},
		{"DivMod(a, b)", func(a, b api.Int) []api.Int { return two(whole.DivMod(a, b)) }},
		{"DivMod(-1, b)", func(a, b api.Int) []api.Int { return two(whole.DivMod(minus(1), b)) }},
		{"Floor(a, b)", func(a, b api.Int) []api.Int { return one(whole.Floor(a, b)) }},
		{"Floor(a, 1)", func(a, b api.Int) []api.Int { return one(whole.Floor(a, plus(1))) }},
		{"Ceil(a, b)", func(a, b api.Int) []api.Int { return one(whole.Ceil(a, b)) }},
		{"Gcd()", func(a, b api.Int) []api.Int { return one(whole.Gcd()) }},
		{"Gcd(a)", func(a, b api.Int) []api.Int { return one(whole.Gcd(a)) }},
		{"Gcd(a, b)", func(a, b api.Int) []api.Int { return one(whole.Gcd(a, b)) }},
		{"Extended(a, b)", func(a, b api.Int) []api.Int { return three(whole.Extended(a, b)) }},
		{"Extended(a, a)", func(a, b api.Int) []api.Int { return three(whole.Extended(a, a)) }},
		{"Extended(a, 0)", func(a, b api.Int) []api.Int { return three(whole.Extended(a, minus(0))) }},
		{"Print(a)", func(a, b api.Int) []api.Int { whole.Print(a); return nil }},
		{"Parse(Print(a))", func(a, b api.Int) []api.Int { s, _ := whole.Print(a); return one(whole.Parse(s)) }},
	}
}

func TestNoCallPanics(t *testing.T) {
	greats := []api.Int{most(), turned(most()), least(), turned(least()), padded(least(), 5), padded(minus(), 5000), pow(mostBits + 6400), off(turned(pow(mostBits+6400)), 1)}
	greats = append(greats, plus(), of(-1), minus(0, 0, 7))
	for _, c := range calls() {
		for _, list := range [][]api.Int{samples(), greats} {
			for _, a := range list {
				for _, b := range list {
					callSafely(t, c, a, b)
				}
			}
		}
	}
}

func callSafely(t *testing.T, c call, a, b api.Int) {
	defer func() {
		if p := recover(); p != nil {
			t.Errorf("%s of %s, %s panics: %v", c.name, brief(a), brief(b), p)
		}
	}()
	for _, x := range c.do(a, b) {
		if !isCanonical(x) {
			t.Errorf("%s of %s, %s: not canonical", c.name, brief(a), brief(b))
		}
	}
}

// roomy is a number whose limbs have room to spare, which is not zero; and its limbs with that room.
func roomy(a api.Int) (api.Int, api.Nat) {
	room := append(slices.Clone(a.Mag), 11, 22, 33)
	return api.Int{Neg: a.Neg, Mag: room[:len(a.Mag)]}, room
}

// What is handed in is not changed, and no answer shares memory with it or with another answer, spare room included.
func TestMemory(t *testing.T) {
	greats := []api.Int{most(), least(), off(least(), 1), turned(pow(mostBits + 640))}
	for _, c := range calls() {
		for _, x := range samples() {
			for _, y := range samples() {
				checkMemory(t, c, x, y)
			}
		}
		for _, x := range greats {
			for _, y := range greats {
				checkMemory(t, c, x, y)
			}
		}
	}
}

func checkMemory(t *testing.T, c call, x, y api.Int) {
	t.Helper()
	a, roomA := roomy(x)
	b, roomB := roomy(y)
	wasA, wasB := slices.Clone(roomA), slices.Clone(roomB)
	answers := c.do(a, b)
	if !slices.Equal(roomA, wasA) || !slices.Equal(roomB, wasB) {
		t.Fatalf("%s of %s, %s changes what is handed in", c.name, brief(x), brief(y))
	}
	var before []api.Int
	for _, n := range answers {
		before = append(before, api.Int{Neg: n.Neg, Mag: slices.Clone(n.Mag)})
	}
	for i, n := range answers {
		spoil(n)
		for k := i + 1; k < len(answers); k++ {
			if !same(answers[k], before[k]) {
				t.Fatalf("%s of %s, %s: two answers share memory", c.name, brief(x), brief(y))
			}
		}
	}
	if !slices.Equal(roomA, wasA) || !slices.Equal(roomB, wasB) {
		t.Fatalf("%s of %s, %s: an answer shares memory with what is handed in", c.name, brief(x), brief(y))
	}
	for i, n := range c.do(a, b) {
		if !same(n, before[i]) {
			t.Fatalf("%s of %s, %s: another answer the second time", c.name, brief(x), brief(y))
		}
	}
}

// spoil writes over all the memory of a number, spare room too.
func spoil(n api.Int) {
	all := n.Mag[:cap(n.Mag)]
	for i := range all {
		all[i] = 0xdead
	}
}

// The list of a variadic call is an argument too.
func TestListsAreNotChanged(t *testing.T) {
	list := []api.Int{plus(1, 0), minus(2), {}, minus(3, 0, 0), minus(0), plus(top), plus(7)}
	room := list[:5]
	was := slices.Clone(list)
	whole.Sum(room...)
	whole.Gcd(room...)
	whole.Sum(list[3:]...)
	for i, a := range list {
		if !same(a, was[i]) || (a.Mag == nil) != (was[i].Mag == nil) {
			t.Errorf("number %d of the list is changed: %v", i, a)
		}
	}
}

// A number has one and the same answers in all its forms.
func TestFormsHaveOneAnswer(t *testing.T) {
	for _, c := range calls() {
		for _, a := range samples() {
			for _, b := range samples() {
				was := c.do(a, b)
				other := c.do(padded(a, 3), padded(whole.Norm(b), 1))
				for i, n := range was {
					if !same(n, other[i]) {
						t.Errorf("%s of %s, %s: another answer for another form", c.name, brief(a), brief(b))
					}
				}
			}
		}
	}
}
