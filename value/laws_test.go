package value_test

import (
	"slices"
	"testing"

	"tribunal/api"
	"tribunal/sort"
	"tribunal/value"
)

// each goes through many signatures, sorts and values: what follows is held against the model on them.
func each(t *testing.T, seed uint64, many int, ask func(d *dice, m model, s api.Sort)) {
	t.Helper()
	d := &dice{seed}
	for i := range many {
		g := some()
		if i%2 == 1 {
			g = d.sig()
		}
		ask(d, model{g}, d.sort(g, 2))
		if t.Failed() {
			return
		}
	}
}

// P10.1, P10.2, P10.4: what a value's normal form is, and how it is written.
func TestManyForms(t *testing.T) {
	each(t, 1, 1000, func(d *dice, m model, s api.Sort) {
		for range 4 {
			v := m.value(d, s, 3)
			if e := value.Check(v, s, m.g); e != api.OK {
				t.Fatalf("Check(%s, %s): error %d", show(v), name(s), e)
			}
			want := m.norm(v, s)
			isNorm(t, v, s, m.g, want)
			if got, e := value.Text(v, s, m.g); e != api.OK || got != m.text(want) {
				t.Errorf("Text(%s): %s, error %d; want %s", show(v), got, e, m.text(want))
			}
		}
	})
}

// P10.3, P10.8: two values are the same just if they are so at all keys; then their normal forms are the same field by field, and Cmp is 0.
func TestManyPairs(t *testing.T) {
	same := 0
	each(t, 2, 700, func(d *dice, m model, s api.Sort) {
		list := []api.Value{m.value(d, s, 3), m.value(d, s, 2), m.value(d, s, 1)}
		list = append(list, m.formed(d, list[0], s), m.formed(d, list[1], s))
		for _, a := range list {
			for _, b := range list {
				want := m.same(a, b, s)
				x, _ := value.Norm(a, s, m.g)
				y, _ := value.Norm(b, s, m.g)
				got, e := value.Same(a, b, s, m.g)
				if e != api.OK || got != want || alike(x, y) != want || (value.Cmp(x, y) == 0) != want {
					t.Fatalf("%s and %s: the same: %v, error %d, normal forms %v, Cmp %d; want %v", show(a), show(b), got, e, alike(x, y), value.Cmp(x, y), want)
				}
				if want {
					same++
				}
			}
		}
	})
	if same < 700*7 {
		t.Errorf("only %d pairs are the same", same)
	}
}

// P10.3, P10.8: Cmp is the order of values as they stand, of one sort or of any; it is an order.
func TestManyOrders(t *testing.T) {
	each(t, 3, 400, func(d *dice, m model, s api.Sort) {
		var list []api.Value
		for range 3 {
			v := m.value(d, s, 3)
			n, _ := value.Norm(v, s, m.g)
			list = append(list, v, n, m.formed(d, v, s), m.value(d, d.sort(m.g, 1), 2))
		}
		for _, a := range list {
			for _, b := range list {
				got := value.Cmp(a, b)
				if got != m.cmp(a, b) {
					t.Fatalf("Cmp(%s, %s): %d; want %d", show(a), show(b), got, m.cmp(a, b))
				}
				if value.Cmp(b, a) != -got {
					t.Fatalf("Cmp(%s, %s): %d, the other way %d", show(a), show(b), got, value.Cmp(b, a))
				}
				for _, c := range list {
					if got <= 0 && value.Cmp(b, c) <= 0 && value.Cmp(a, c) > 0 {
						t.Fatalf("no order: %s, %s, %s", show(a), show(b), show(c))
					}
				}
			}
		}
	})
}

// P10.7, P10.9: what is there at a key, what a store makes of it, and at which keys nothing changes.
func TestManyStores(t *testing.T) {
	each(t, 4, 700, func(d *dice, m model, _ api.Sort) {
		s := array(d.sort(m.g, 1), d.sort(m.g, 1))
		v, val := m.value(d, s, 3), m.value(d, s.Args[1], 2)
		keys := []api.Value{m.value(d, s.Args[0], 2), m.value(d, s.Args[0], 2)}
		for _, r := range v.Rows {
			keys = append(keys, m.formed(d, r.Key, s.Args[0]))
		}
		at := keys[0]
		stored, e := value.Store(v, at, val, s, m.g)
		more := arr(s, v.Else[0], append(slices.Clone(v.Rows), row(at, val))...)
		if want := m.norm(more, s); e != api.OK || !alike(stored, want) {
			t.Fatalf("Store(%s, %s, %s): %s, error %d; want %s", show(v), show(at), show(val), show(stored), e, show(want))
		}
		for _, k := range keys {
			got, e := value.Select(v, k, s, m.g)
			want := m.norm(m.at(v, k, s), s.Args[1])
			if e != api.OK || !alike(got, want) {
				t.Fatalf("Select(%s, %s): %s, error %d; want %s", show(v), show(k), show(got), e, show(want))
			}
			if m.same(k, at, s.Args[0]) {
				want = m.norm(val, s.Args[1])
			}
			if now, e := value.Select(stored, k, s, m.g); e != api.OK || !alike(now, want) {
				t.Fatalf("Select(%s, %s) behind a store: %s, error %d; want %s", show(stored), show(k), show(now), e, show(want))
			}
			again, e := value.Store(v, k, got, s, m.g)
			if e != api.OK || !alike(again, m.norm(v, s)) {
				t.Fatalf("Store of what is there at %s: %s, error %d; want %s", show(k), show(again), e, show(m.norm(v, s)))
			}
		}
	})
}

// P10.5, P10.6, P10.11: the first value of a sort, and all of one that has a count.
func TestManySorts(t *testing.T) {
	listed := 0
	each(t, 5, 2000, func(d *dice, m model, s api.Sort) {
		first := m.first(s)
		isDefault(t, s, m.g, first)
		isNorm(t, first, s, m.g, first)
		count, ok := sort.Count(s, m.g, 300)
		if !ok {
			if _, ok := sort.Count(s, m.g, api.MaxParts); !ok {
				notAll(t, s, m.g, api.MaxParts)
			}
			return
		}
		listed++
		want := m.all(s)
		if len(want) != count || !slices.ContainsFunc(want, func(v api.Value) bool { return alike(v, first) }) {
			t.Fatalf("All(%s): the model has %d values; want %d, and %s among them", name(s), len(want), count, show(first))
		}
		hasAll(t, s, m.g, want...)
		for i, v := range want {
			if e := value.Check(v, s, m.g); e != api.OK || i > 0 && value.Cmp(want[i-1], v) >= 0 {
				t.Fatalf("All(%s): %s in place %d, error %d", name(s), show(v), i, e)
			}
		}
	})
	if listed < 300 {
		t.Errorf("only %d sorts have a count", listed)
	}
}

// P10.10: arrays over a finite sort that have the same at all values of All.
func TestManyKeys(t *testing.T) {
	each(t, 6, 2000, func(d *dice, m model, _ api.Sort) {
		s := array(d.sort(m.g, 1), d.sort(m.g, 1))
		keys, ok := value.All(s.Args[0], m.g, 40)
		if !ok {
			return
		}
		a := m.value(d, s, 3)
		b := m.value(d, s, 3)
		if d.below(2) == 0 {
			b = m.formed(d, a, s)
		}
		want := true
		for _, k := range keys {
			x, _ := value.Select(a, k, s, m.g)
			y, _ := value.Select(b, k, s, m.g)
			want = want && alike(x, y)
		}
		if got, e := value.Same(a, b, s, m.g); e != api.OK || got != want {
			t.Fatalf("Same(%s, %s): %v, error %d; at all keys %v", show(a), show(b), got, e, want)
		}
	})
}
