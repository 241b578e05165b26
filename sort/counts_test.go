package sort_test

import (
	"fmt"
	"math/big"
	"slices"
	"testing"

	"tribunal/api"
	"tribunal/sort"
)

// P4.5: the chapter's examples, and how many values there are of each kind.
func TestCounts(t *testing.T) {
	g := some()
	hasCount(t, boolean, g, 2)
	hasCount(t, boolean, api.Sig{}, 2)
	hasCount(t, wide(1), g, 2)
	hasCount(t, wide(2), g, 4)
	hasCount(t, wide(8), g, 256)
	hasCount(t, wide(31), g, 1<<31)
	hasCount(t, data("Color"), g, 2)
	hasCount(t, data("Pair"), g, 4)
	hasCount(t, data("Unit"), g, 1)
	hasCount(t, array(data("Color"), data("Pair")), g, 16)
	hasCount(t, array(data("Pair"), data("Color")), g, 16)
	hasCount(t, array(boolean, array(boolean, boolean)), g, 16)
	hasCount(t, array(array(boolean, boolean), boolean), g, 16)
	hasCount(t, array(array(boolean, boolean), data("Pair")), g, 256)
	hasCount(t, array(data("Unit"), wide(7)), g, 128)
	hasCount(t, array(wide(3), boolean), g, 256)
	hasNone(t, integer, g, false)
	hasNone(t, user("U"), g, false)
	hasNone(t, data("List"), g, false)
	hasNone(t, data("Tree"), g, false)
	hasNone(t, data("Forest"), g, false)
	hasNone(t, data("Box"), g, false)
	hasNone(t, array(integer, data("Color")), g, false)
	hasNone(t, array(data("Color"), integer), g, false)
	hasNone(t, array(data("Unit"), integer), g, false)
	hasNone(t, array(user("U"), boolean), g, false)
	hasNone(t, array(data("List"), boolean), g, false)
}

// P4.5: arrays to a sort that has one value.
func TestOneValue(t *testing.T) {
	g := both(some(), datas(datatype("One", con("one", data("Unit"), array(integer, data("Unit")))), datatype("Two", con("two"), con("too", data("One"))), datatype("Far", con("far", array(data("List"), data("Two"))))))
	hasCount(t, array(integer, data("Unit")), g, 1)
	hasCount(t, array(user("U"), data("Still")), g, 1)
	hasCount(t, array(data("Tree"), array(integer, data("Unit"))), g, 1)
	hasCount(t, array(data("Unit"), data("Unit")), g, 1)
	hasCount(t, array(array(integer, integer), data("One")), g, 1)
	hasCount(t, array(wide(4096), data("One")), g, 1)
	hasCount(t, data("Still"), g, 1)
	hasCount(t, data("One"), g, 1)
	hasCount(t, data("Two"), g, 2)
	hasCount(t, array(array(integer, data("Unit")), data("Two")), g, 2)
	hasNone(t, array(integer, data("Two")), g, false)
	hasNone(t, data("Far"), g, false)
	hasNone(t, array(data("Unit"), data("Far")), g, false)
}

// P4.5: counts beyond an int, and just within.
func TestGreatCounts(t *testing.T) {
	g := both(some(), datas(datatype("Half", con("half", wide(61))), datatype("Sum", con("s1", wide(62)), con("s2", wide(61)), con("s3", wide(61))), datatype("Less", con("l1", wide(62)), con("l2", wide(61)), con("l3", wide(60))), datatype("Wide", con("w", wide(32), wide(32))), datatype("Long", con("x", wide(31), wide(31))), datatype("Huge", con("h1", wide(4096)), con("h2"))))
	if ^uint(0)>>63 == 1 {
		one := 1
		hasCount(t, wide(62), g, one<<62)
		hasCount(t, data("Half"), g, one<<61)
		hasCount(t, data("Long"), g, one<<62)
		hasCount(t, data("Less"), g, one<<62+one<<61+one<<60)
		hasCount(t, array(boolean, wide(31)), g, one<<62)
		hasCount(t, array(wide(5), wide(1)), g, one<<32)
		hasNone(t, wide(63), g, true)
		hasNone(t, wide(64), g, true)
		hasNone(t, data("Sum"), g, true)
		hasNone(t, data("Wide"), g, true)
		hasNone(t, array(wide(6), boolean), g, true)
		hasNone(t, array(boolean, wide(32)), g, true)
	}
	hasNone(t, wide(65), g, true)
	hasNone(t, wide(128), g, true)
	hasNone(t, wide(4096), g, true)
	hasNone(t, data("Huge"), g, true)
	hasNone(t, array(wide(4096), wide(4096)), g, true)
	hasNone(t, array(wide(4096), boolean), g, true)
	hasNone(t, array(boolean, wide(4096)), g, true)
	hasNone(t, array(data("Unit"), wide(4096)), g, true)
	hasNone(t, array(wide(4096), integer), g, false)
	hasNone(t, array(integer, wide(4096)), g, false)
}

// Datatypes, each of two of the one before: as many steps as there are of them, not as many as they have parts.
func TestCountsOfManyDatatypes(t *testing.T) {
	for _, back := range []bool{false, true} {
		g := datas(datatype("D0", con("d0", data("Unit"))), datatype("Unit", con("unit")))
		twice := datas(datatype("E0", con("e0"), con("f0")))
		for i := 1; i < 800; i++ {
			g.Datas = append(g.Datas, datatype(fmt.Sprint("D", i), con(fmt.Sprint("d", i), data(fmt.Sprint("D", i-1)), data(fmt.Sprint("D", i-1)))))
			twice.Datas = append(twice.Datas, datatype(fmt.Sprint("E", i), con(fmt.Sprint("e", i), data(fmt.Sprint("E", i-1)), data(fmt.Sprint("E", i-1)))))
		}
		if back {
			slices.Reverse(g.Datas)
			slices.Reverse(twice.Datas)
		}
		hasCount(t, data("D799"), g, 1)
		hasCount(t, data("E4"), twice, 1<<16)
		hasNone(t, data("E799"), twice, true)
	}
}

// P4.5: what leans on itself, or on what does.
func TestFinite(t *testing.T) {
	g := both(some(), datas(
		datatype("Nat", con("zero"), con("succ", data("Nat"))),
		datatype("Even", con("e0"), con("e1", data("Odd"))), datatype("Odd", con("o1", data("Even"))),
		datatype("Lists", con("ls", data("List"))), datatype("Maybe", con("no"), con("yes", data("Nat"))),
		datatype("Calm", con("calm", array(data("Nat"), data("Unit")), boolean)),
		datatype("Map", con("map", array(data("Nat"), boolean))), datatype("Ints", con("i", boolean, integer)), datatype("Us", con("u"), con("v", user("U"))),
	))
	for name, want := range map[string]bool{"Nat": false, "Even": false, "Odd": false, "Lists": false, "Maybe": false, "Calm": true, "Map": false, "Ints": false, "Us": false, "Box": false, "Pair": true, "Still": true} {
		if sort.Finite(data(name), g) != want || sort.Finite(array(boolean, data(name)), g) != want || sort.Finite(array(data(name), boolean), g) != want {
			t.Errorf("Finite of %s: %v", name, !want)
		}
		if !sort.Finite(array(data(name), data("Unit")), g) {
			t.Errorf("an array from %s to Unit is finite", name)
		}
	}
	hasCount(t, data("Calm"), g, 2)
}

// P4.5: sorts that Check refuses, and signatures that CheckSig refuses.
func TestNoCount(t *testing.T) {
	g := some()
	for _, s := range []api.Sort{{}, user("V"), data("U"), user("Pair"), wide(0), wide(4097), array(boolean, data("V")), deep(17, boolean), full(257, boolean), array(user("nobody"), data("Unit")), endless()} {
		hasNone(t, s, g, false)
	}
	for what, bad := range map[string]api.Sig{
		"loop": datas(datatype("Loop", con("loop", data("Loop")))), "name": users("|"), "twice": users("U"), "sort": funs(fun("g", wide(0))), "none": datas(datatype("None")),
		"nest": datas(datatype("Bad", con("b0"), con("b1", array(integer, data("Bad"))))),
	} {
		if h := both(g, bad); sort.CheckSig(h) == api.OK || sort.Finite(boolean, h) || sort.Finite(data("Pair"), h) {
			t.Errorf("%s: finite", what)
		} else if n, ok := sort.Count(data("Pair"), h, 100); n != 0 || ok {
			t.Errorf("%s: count %d, %v", what, n, ok)
		}
	}
}

// P4.8: a count is that of the parts, as the chapter's words have it; tried on many sorts of a grounded signature.
func TestCountsOfParts(t *testing.T) {
	d := dice{48}
	found := 0
	for range 3000 {
		g := d.sig(false)
		if sort.CheckSig(g) != api.OK {
			continue
		}
		found++
		m := newModel(g)
		for _, data := range g.Datas {
			s := api.Sort{Kind: api.KData, Name: data.Name}
			n, ok := sort.Count(s, g, 1<<40)
			if ok && n < 1 {
				t.Errorf("%d values of %s", n, data.Name)
			}
			if ok && n != sumOfProducts(t, data, g) {
				t.Errorf("%d values of %+v", n, data)
			}
			m.holds(t, s, 1<<40)
		}
		for range 5 {
			s := d.sort(g, 3)
			m.holds(t, s, 1<<40)
			m.holds(t, s, 1+d.below(20))
			m.holds(t, s, int(^uint(0)>>1))
		}
	}
	if found < 500 {
		t.Errorf("only %d signatures that may be", found)
	}
}

// sumOfProducts is by Count of the parts alone.
func sumOfProducts(t *testing.T, data api.Datatype, g api.Sig) int {
	sum := 0
	for _, c := range data.Cons {
		product := 1
		for _, sel := range c.Sels {
			n, ok := sort.Count(sel.Sort, g, 1<<40)
			if !ok {
				t.Errorf("%s has a count, %+v has none", data.Name, sel.Sort)
			}
			product *= n
		}
		sum += product
	}
	return sum
}

// model is what the chapter says of a signature, step by step and without a thought of time.
type model struct {
	sig    api.Sig
	leans  map[[2]string]bool
	ground map[string]bool
}

func find(g api.Sig, name string) api.Datatype {
	return g.Datas[slices.IndexFunc(g.Datas, func(d api.Datatype) bool { return d.Name == name })]
}

func selectors(d api.Datatype) []api.Sel {
	var list []api.Sel
	for _, c := range d.Cons {
		list = append(list, c.Sels...)
	}
	return list
}

// within are the names of the datatypes in a sort; of an array alone, if so asked.
func within(s api.Sort, arrayed bool) []string {
	if s.Kind == api.KData && !arrayed {
		return []string{s.Name}
	}
	var list []string
	for _, a := range s.Args {
		list = append(list, within(a, false)...)
	}
	return list
}

func newModel(g api.Sig) model {
	m := model{g, map[[2]string]bool{}, map[string]bool{}}
	for _, d := range g.Datas {
		for _, s := range selectors(d) {
			for _, e := range within(s.Sort, false) {
				m.leans[[2]string{d.Name, e}] = true
			}
		}
	}
	for _, over := range g.Datas {
		for _, a := range g.Datas {
			for _, b := range g.Datas {
				if m.leans[[2]string{a.Name, over.Name}] && m.leans[[2]string{over.Name, b.Name}] {
					m.leans[[2]string{a.Name, b.Name}] = true
				}
			}
		}
	}
	for range g.Datas {
		for _, d := range g.Datas {
			if slices.ContainsFunc(d.Cons, func(c api.Con) bool {
				return !slices.ContainsFunc(c.Sels, func(s api.Sel) bool { return !m.grounded(s.Sort) })
			}) {
				m.ground[d.Name] = true
			}
		}
	}
	return m
}

func (m model) grounded(s api.Sort) bool {
	switch s.Kind {
	case api.KArray:
		return m.grounded(s.Args[1])
	case api.KData:
		return m.ground[s.Name]
	}
	return true
}

func (m model) nested() bool {
	for _, d := range m.sig.Datas {
		for _, s := range selectors(d) {
			for _, e := range within(s.Sort, true) {
				if e == d.Name || m.leans[[2]string{e, d.Name}] {
					return true
				}
			}
		}
	}
	return false
}

// tooGreat is the exponent from which on counts are not worked out.
const tooGreat = 5000

// count is the number of values: nil, if not finite; one that is far too great may be less than it is.
func (m model) count(s api.Sort) *big.Int {
	switch s.Kind {
	case api.KBool:
		return big.NewInt(2)
	case api.KBits:
		return new(big.Int).Lsh(big.NewInt(1), uint(min(s.Width, tooGreat)))
	case api.KArray:
		from, to := m.count(s.Args[0]), m.count(s.Args[1])
		if to != nil && to.Cmp(big.NewInt(1)) == 0 {
			return to
		}
		if from == nil || to == nil {
			return nil
		}
		if from.Cmp(big.NewInt(tooGreat)) > 0 {
			return new(big.Int).Lsh(big.NewInt(1), tooGreat)
		}
		return new(big.Int).Exp(to, from, nil)
	case api.KData:
		return m.countOfData(find(m.sig, s.Name))
	}
	return nil
}

func (m model) countOfData(d api.Datatype) *big.Int {
	if m.leans[[2]string{d.Name, d.Name}] {
		return nil
	}
	sum := new(big.Int)
	for _, c := range d.Cons {
		product := big.NewInt(1)
		for _, s := range c.Sels {
			n := m.count(s.Sort)
			if n == nil {
				return nil
			}
			product.Mul(product, n)
		}
		sum.Add(sum, product)
	}
	return sum
}

// holds asks Finite and Count of a sort.
func (m model) holds(t *testing.T, s api.Sort, most int) {
	t.Helper()
	want := m.count(s)
	if got := sort.Finite(s, m.sig); got != (want != nil) {
		t.Errorf("Finite(%+v, %+v): %v", s, m.sig, got)
	}
	n, ok := sort.Count(s, m.sig, most)
	if want == nil || want.Cmp(big.NewInt(int64(most))) > 0 {
		if ok || n != 0 {
			t.Errorf("Count(%+v, %+v, %d): %d, %v", s, m.sig, most, n, ok)
		}
	} else if !ok || int64(n) != want.Int64() {
		t.Errorf("Count(%+v, %+v, %d): %d, %v; want %s", s, m.sig, most, n, ok, want)
	}
}

// sort is one of what g declares.
func (d *dice) sort(g api.Sig, depth int) api.Sort {
	switch n := d.below(10); {
	case n < 3 && len(g.Datas) > 0:
		return data(pick(d, g.Datas).Name)
	case n < 6 && depth > 0:
		return array(d.sort(g, depth-1), d.sort(g, depth-1))
	case n == 6:
		return wide(1 + d.below(5))
	case n == 7 && len(g.Users) > 0:
		return user(pick(d, g.Users))
	case n == 8 && d.below(2) == 0:
		return integer
	}
	return boolean
}

// sig has a few datatypes, often grounded and not nested; with faults, now and then, if so asked.
func (d *dice) sig(faults bool) api.Sig {
	g := users(numbered("U", d.below(3))...)
	for _, name := range numbered("D", d.below(6)) {
		g.Datas = append(g.Datas, datatype(name))
	}
	early := api.Sig{Users: g.Users}
	for i := range g.Datas {
		from := g // any datatype may be named, or those ahead alone
		if d.below(3) > 0 {
			from = early
		}
		for j := range 1 + d.below(3) {
			var sorts []api.Sort
			for range d.below(3) {
				sorts = append(sorts, d.sort(from, d.below(3)))
			}
			g.Datas[i].Cons = append(g.Datas[i].Cons, con(fmt.Sprint("c", i, "_", j), sorts...))
		}
		early.Datas = append(early.Datas, datatype(g.Datas[i].Name))
	}
	for i := range d.below(3) {
		g.Funs = append(g.Funs, fun(fmt.Sprint("f", i), d.sort(g, 2), d.sort(g, 2)))
	}
	if faults {
		d.spoil(&g)
	}
	return g
}

// spoil puts a fault or none into a signature.
func (d *dice) spoil(g *api.Sig) {
	for range d.below(3) {
		switch d.below(8) {
		case 0:
			g.Users = append(g.Users, pick(d, []string{"U0", "D0", "", "a|b", "V", "c0_0"}))
		case 1:
			g.Funs = append(g.Funs, fun(pick(d, []string{"f0", "c0_0", "c0_0_0", "D0", "@"}), pick(d, []api.Sort{boolean, wide(0), deep(17, boolean), user("D0"), data("U0"), data("D9")})))
		case 2:
			g.Datas = append(g.Datas, datatype(pick(d, []string{"U0", "D0", "E", "."})))
		case 3:
			g.Datas = append(g.Datas, datatype("F", con(pick(d, []string{"f0", "c1_0", "g", "\\"}), pick(d, []api.Sort{integer, data("F"), array(integer, data("F")), data("D0"), user("W"), full(257, integer)}))))
		case 4:
			g.Funs = append(g.Funs, fun("h", integer, args(64+d.below(2))...))
		}
	}
}
