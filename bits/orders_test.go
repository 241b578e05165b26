package bits_test

import (
	"slices"
	"strconv"
	"testing"

	"tribunal/api"
	"tribunal/bits"
)

// These are the tests of the orders of P9.2.

func checkOrders(t *testing.T, a, b string) {
	t.Helper()
	for _, op := range ordered {
		for _, zeros := range []int{0, 2} {
			got, err := bits.Holds(op, vec(a), paddedWith(vec(b), zeros))
			if got != stands(op, a, b) || err != api.OK {
				t.Errorf("Holds(%d, %s, %s): %v, error %d", op, short(a), short(b), got, err)
			}
			got, err = bits.Holds(op, paddedWith(vec(a), zeros), vec(b))
			if got != stands(op, a, b) || err != api.OK {
				t.Errorf("Holds(%d, %s, %s): %v, error %d", op, short(a), short(b), got, err)
			}
		}
	}
}

func TestOrders(t *testing.T) {
	for w := 1; w <= 5; w++ {
		for _, a := range allBits(w) {
			for _, b := range allBits(w) {
				checkOrders(t, a, b)
			}
		}
	}
	for _, w := range slices.Concat(widths(), greatWidths()) {
		list := samples(w)
		for i, a := range list {
			for _, b := range []string{a, list[0], list[len(list)-1], list[(i+1)%len(list)], list[(i*7+3)%len(list)], list[len(list)/2]} {
				checkOrders(t, a, b)
			}
		}
	}
}

func TestSomeOrders(t *testing.T) {
	for _, c := range []struct {
		op   api.Op
		a, b string
		want bool
	}{
		{api.OBvSlt, "1000", "0111", true}, {api.OBvUlt, "1000", "0111", false}, {api.OBvSlt, "0111", "1000", false}, {api.OBvUlt, "0111", "1000", true},
		{api.OBvUle, "0111", "0111", true}, {api.OBvUlt, "0111", "0111", false}, {api.OBvUge, "0111", "0111", true}, {api.OBvUgt, "0111", "0111", false},
		{api.OBvSle, "1111", "1111", true}, {api.OBvSlt, "1111", "1111", false}, {api.OBvSge, "1111", "1111", true}, {api.OBvSgt, "1111", "1111", false},
		{api.OBvUgt, "1", "0", true}, {api.OBvSgt, "1", "0", false}, {api.OBvUge, "0", "1", false}, {api.OBvSge, "0", "1", true}, {api.OBvUle, "1", "0", false}, {api.OBvSle, "1", "0", true},
	} {
		if got, err := bits.Holds(c.op, vec(c.a), vec(c.b)); got != c.want || err != api.OK {
			t.Errorf("Holds(%d, %s, %s): %v, error %d", c.op, c.a, c.b, got, err)
		}
	}
}

// Just one of below, even and above holds; of the other orders each says what two of these say.
func TestOrdersAgree(t *testing.T) {
	d := &dice{21}
	for range 2000 {
		w := 1 + d.below(200)
		a, b := vec(d.bits(w)), vec(d.bits(w))
		if d.below(4) == 0 {
			b = a
		}
		holds := func(op api.Op, x, y api.Bits) bool {
			ok, err := bits.Holds(op, x, y)
			if err != api.OK {
				t.Errorf("Holds(%d): error %d", op, err)
			}
			return ok
		}
		for _, l := range [][]api.Op{{api.OBvUlt, api.OBvUle, api.OBvUgt, api.OBvUge}, {api.OBvSlt, api.OBvSle, api.OBvSgt, api.OBvSge}} {
			below, above, even := holds(l[0], a, b), holds(l[2], a, b), same(a, b)
			if below && above || below == even && above == even || holds(l[1], a, b) == above || holds(l[3], a, b) == below || holds(l[0], b, a) != above {
				t.Errorf("the orders of %s and %s don't agree in "+strconv.Itoa(int(l[0])), row(a), row(b))
			}
		}
	}
}
