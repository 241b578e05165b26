package nat_test

import (
	"math"
	"slices"
	"strconv"
	"testing"

	"tribunal/api"
	"tribunal/nat"
)

// These are the tests of the rules that hold everywhere.

// call is one of the calls on two numbers, with all the numbers that it answers.
type call struct {
	name string
	do   func(a, b api.Nat) []api.Nat
}

func calls() []call {
	one := func(a api.Nat, _ api.Errno) []api.Nat { return []api.Nat{a} }
	list := []call{
		{"Add()", func(a, b api.Nat) []api.Nat { return one(nat.Add()) }},
		{"Add(a)", func(a, b api.Nat) []api.Nat { return one(nat.Add(a)) }},
		{"Add(a, b)", func(a, b api.Nat) []api.Nat { return one(nat.Add(a, b)) }},
		{"Add(a, a, b)", func(a, b api.Nat) []api.Nat { return one(nat.Add(a, a, b)) }},
		{"Sub(a, b)", func(a, b api.Nat) []api.Nat { return one(nat.Sub(a, b)) }},
		{"Sub(a, a)", func(a, b api.Nat) []api.Nat { return one(nat.Sub(a, a)) }},
		{"Mul()", func(a, b api.Nat) []api.Nat { return one(nat.Mul()) }},
		{"Mul(a)", func(a, b api.Nat) []api.Nat { return one(nat.Mul(a)) }},
		{"Mul(a, b)", func(a, b api.Nat) []api.Nat { return one(nat.Mul(a, b)) }},
		{"Mul(a, 1)", func(a, b api.Nat) []api.Nat { return one(nat.Mul(a, api.Nat{1})) }},
		{"Mul(a, b, a)", func(a, b api.Nat) []api.Nat { return one(nat.Mul(a, b, a)) }},
		{"Quo(a, b)", func(a, b api.Nat) []api.Nat { q, r, _ := nat.Quo(a, b); return []api.Nat{q, r} }},
		{"Quo(a, 1)", func(a, b api.Nat) []api.Nat { q, r, _ := nat.Quo(a, api.Nat{1}); return []api.Nat{q, r} }},
		{"Quo(a, a)", func(a, b api.Nat) []api.Nat { q, r, _ := nat.Quo(a, a); return []api.Nat{q, r} }},
		{"Gcd(a, b)", func(a, b api.Nat) []api.Nat { return one(nat.Gcd(a, b)) }},
		{"Gcd(a, a)", func(a, b api.Nat) []api.Nat { return one(nat.Gcd(a, a)) }},
		{"Cmp(a, b)", func(a, b api.Nat) []api.Nat { nat.Cmp(a, b); return nil }},
		{"Small(a)", func(a, b api.Nat) []api.Nat { nat.Small(a); return nil }},
		{"Len(a)", func(a, b api.Nat) []api.Nat { nat.Len(a); return nil }},
	}
	for _, n := range []int{math.MinInt, -1, 0, 1, 63, 64, 65, 130, mostBits - 1, mostBits, math.MaxInt} {
		at := strconv.Itoa(n)
		list = append(list,
			call{"Shl(a, " + at + ")", func(a, b api.Nat) []api.Nat { return one(nat.Shl(a, n)) }},
			call{"Shr(a, " + at + ")", func(a, b api.Nat) []api.Nat { return one(nat.Shr(a, n)) }},
			call{"Bit(a, " + at + ")", func(a, b api.Nat) []api.Nat { nat.Bit(a, n); return nil }},
		)
	}
	for _, base := range append(noBases, bases...) {
		at := strconv.Itoa(base)
		list = append(list,
			call{"Text(a, " + at + ")", func(a, b api.Nat) []api.Nat { nat.Text(a, base); return nil }},
			call{"Parse(s, " + at + ")", func(a, b api.Nat) []api.Nat { return one(nat.Parse("1101", base)) }},
		)
	}
	return list
}

// roomy is a number in a list with room to spare, which is not zero.
func roomy(a api.Nat) (api.Nat, []uint64) {
	room := append(slices.Clone(a), 11, 22, 33)
	return room[:len(a)], room
}

func TestNoCallPanics(t *testing.T) {
	list := append(samples(), most(), least(), padded(most(), 5), padded(nil, 5000))
	for _, c := range calls() {
		for _, a := range list {
			for _, b := range list {
				callSafely(t, c, a, b)
			}
		}
	}
}

func callSafely(t *testing.T, c call, a, b api.Nat) {
	defer func() {
		if p := recover(); p != nil {
			t.Errorf("%s of %s, %s panics: %v", c.name, brief(a), brief(b), p)
		}
	}()
	for _, x := range c.do(a, b) {
		if !isRight(x) {
			t.Errorf("%s of %s, %s: zeros on top", c.name, brief(a), brief(b))
		}
	}
}

// What is handed in is not changed, and no answer shares memory with it or with another answer, spare room included.
func TestMemory(t *testing.T) {
	for _, c := range calls() {
		for _, x := range samples() {
			for _, y := range samples() {
				checkMemory(t, c, x, y)
			}
		}
	}
}

func checkMemory(t *testing.T, c call, x, y api.Nat) {
	t.Helper()
	a, roomA := roomy(x)
	b, roomB := roomy(y)
	wasA, wasB := slices.Clone(roomA), slices.Clone(roomB)
	answers := c.do(a, b)
	if !slices.Equal(roomA, wasA) || !slices.Equal(roomB, wasB) {
		t.Fatalf("%s of %s, %s changes what is handed in", c.name, brief(x), brief(y))
	}
	var before []api.Nat
	for _, n := range answers {
		before = append(before, slices.Clone(n))
	}
	for i, n := range answers {
		all := n[:cap(n)]
		for j := range all {
			all[j] = 0xdead
		}
		for k := i + 1; k < len(answers); k++ {
			if !slices.Equal(answers[k], before[k]) {
				t.Fatalf("%s of %s, %s: two answers share memory", c.name, brief(x), brief(y))
			}
		}
	}
	if !slices.Equal(roomA, wasA) || !slices.Equal(roomB, wasB) {
		t.Fatalf("%s of %s, %s: an answer shares memory with what is handed in", c.name, brief(x), brief(y))
	}
	again := c.do(a, b)
	for i := range again {
		if !slices.Equal(again[i], before[i]) {
			t.Fatalf("%s of %s, %s: another answer the second time", c.name, brief(x), brief(y))
		}
	}
}

// The list of a variadic call is an argument too.
func TestListsAreNotChanged(t *testing.T) {
	list := []api.Nat{{1, 0}, {2}, nil, {3, 0, 0}, {top}, {7}}
	room := list[:4]
	was := slices.Clone(list)
	nat.Add(room...)
	nat.Mul(room...)
	nat.Mul(list[3:]...)
	for i, a := range list {
		if !slices.Equal(a, was[i]) || (a == nil) != (was[i] == nil) {
			t.Errorf("number %d of the list is changed: %v", i, a)
		}
	}
}

func TestLaws(t *testing.T) {
	d := &dice{11}
	for range 300 {
		a, b, c := d.nat(d.below(6)), d.nat(d.below(6)), d.nat(d.below(6))
		sum, err := nat.Add(b, c)
		left, err2 := nat.Mul(a, sum)
		ab, err3 := nat.Mul(a, b)
		ac, err4 := nat.Mul(a, c)
		right, err5 := nat.Add(ab, ac)
		if err != 0 || err2 != 0 || err3 != 0 || err4 != 0 || err5 != 0 || !slices.Equal(left, right) {
			t.Errorf("a product with a sum: %v, %v, %v", a, b, c)
		}
		less, err := nat.Sub(sum, c)
		is(t, "b + c - c", less, err, b)
		up, err := nat.Shl(a, 77)
		is(t, "Shl", up, err, must(nat.Mul(a, pow(77))))
		down, err := nat.Shr(up, 77)
		is(t, "Shr of Shl", down, err, a)
	}
}

func must(a api.Nat, _ api.Errno) api.Nat { return a }
