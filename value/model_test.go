package value_test

import (
	"cmp"
	"fmt"
	"math/big"
	"slices"
	"strings"

	"tribunal/api"
	"tribunal/sort"
)

// model is the chapter's words done in the plainest way: arrays over a sort with a small count are looked at key by key, and values are told apart by their texts.
type model struct{ g api.Sig }

// small is a count up to which the model goes through all values.
const small = 64

func (m model) con(s api.Sort, name string) api.Con {
	for _, data := range m.g.Datas {
		for _, c := range data.Cons {
			if data.Name == s.Name && c.Name == name {
				return c
			}
		}
	}
	panic("no constructor " + name)
}

func (m model) cons(s api.Sort) []api.Con {
	for _, data := range m.g.Datas {
		if data.Name == s.Name {
			return data.Cons
		}
	}
	panic("no datatype " + s.Name)
}

// norm is the normal form of a value of the sort.
func (m model) norm(v api.Value, s api.Sort) api.Value {
	switch s.Kind {
	case api.KInt:
		return great(bigOf(v.Int.Neg, v.Int.Mag))
	case api.KBits:
		return vec(s.Width, limbsOf(bigOf(false, v.Bits.Val))...)
	case api.KData:
		out := tree(v.Name)
		for i, sel := range m.con(s, v.Name).Sels {
			out.Args = append(out.Args, m.norm(v.Args[i], sel.Sort))
		}
		return out
	case api.KArray:
		return m.normArray(v, s)
	}
	return v
}

func (m model) normArray(v api.Value, s api.Sort) api.Value {
	other := m.norm(v.Else[0], s.Args[1])
	var keys []api.Value
	has := map[string]api.Value{}
	for _, r := range v.Rows {
		k := m.norm(r.Key, s.Args[0])
		if _, twice := has[m.text(k)]; !twice {
			keys = append(keys, k)
		}
		has[m.text(k)] = m.norm(r.Val, s.Args[1])
	}
	if _, ok := sort.Count(s.Args[0], m.g, small); ok {
		keys = m.all(s.Args[0])
		for _, k := range keys {
			if _, said := has[m.text(k)]; !said {
				has[m.text(k)] = other
			}
		}
		other = m.most(keys, has)
	}
	out := arr(s, other)
	slices.SortFunc(keys, m.cmp)
	for _, k := range keys {
		if x := has[m.text(k)]; m.text(x) != m.text(other) {
			out.Rows = append(out.Rows, row(k, x))
		}
	}
	return out
}

// most is what stands at the most keys, and of those that are even the first in the order.
func (m model) most(keys []api.Value, has map[string]api.Value) api.Value {
	times := map[string]int{}
	for _, k := range keys {
		times[m.text(has[m.text(k)])]++
	}
	best := has[m.text(keys[0])]
	for _, k := range keys {
		x := has[m.text(k)]
		n, most := times[m.text(x)], times[m.text(best)]
		if n > most || n == most && m.cmp(x, best) < 0 {
			best = x
		}
	}
	return best
}

// cmp is the order of values as they stand.
func (m model) cmp(a, b api.Value) int {
	if a.Kind != b.Kind {
		return cmp.Compare(a.Kind, b.Kind)
	}
	switch a.Kind {
	case api.VBool:
		return cmp.Compare(fmt.Sprint(a.Bool), fmt.Sprint(b.Bool)) // "false" is ahead of "true"
	case api.VInt:
		return bigOf(a.Int.Neg, a.Int.Mag).Cmp(bigOf(b.Int.Neg, b.Int.Mag))
	case api.VBits:
		return cmp.Or(cmp.Compare(a.Bits.Width, b.Bits.Width), bigOf(false, a.Bits.Val).Cmp(bigOf(false, b.Bits.Val)))
	case api.VTree:
		return cmp.Or(strings.Compare(a.Name, b.Name), slices.CompareFunc(a.Args, b.Args, m.cmp))
	case api.VArray:
		return cmp.Or(slices.CompareFunc(a.Else, b.Else, m.cmp), slices.CompareFunc(a.Rows, b.Rows, func(x, y api.Row) int {
			return cmp.Or(m.cmp(x.Key, y.Key), m.cmp(x.Val, y.Val))
		}))
	case api.VElem:
		return cmp.Or(strings.Compare(a.Name, b.Name), cmp.Compare(a.Index, b.Index))
	}
	return 0
}

// text writes a value in normal form.
func (m model) text(v api.Value) string {
	switch v.Kind {
	case api.VBool:
		return fmt.Sprint(v.Bool)
	case api.VInt:
		n := bigOf(false, v.Int.Mag)
		if v.Int.Neg {
			return fmt.Sprintf("(- %d)", n)
		}
		return n.String()
	case api.VBits:
		return fmt.Sprintf("#b%0*b", v.Bits.Width, bigOf(false, v.Bits.Val))
	case api.VElem:
		return fmt.Sprintf("(as @%d %s)", v.Index, sort.Quote(v.Name))
	case api.VArray:
		out := fmt.Sprintf("((as const %s) %s)", name(v.Sort), m.text(v.Else[0]))
		for _, r := range v.Rows {
			out = fmt.Sprintf("(store %s %s %s)", out, m.text(r.Key), m.text(r.Val))
		}
		return out
	}
	if len(v.Args) == 0 {
		return sort.Quote(v.Name)
	}
	out := "(" + sort.Quote(v.Name)
	for _, x := range v.Args {
		out += " " + m.text(x)
	}
	return out + ")"
}

// all is all values of a sort with a small count, in normal form, by rising order.
func (m model) all(s api.Sort) []api.Value {
	var out []api.Value
	switch s.Kind {
	case api.KBool:
		out = []api.Value{yes(false), yes(true)}
	case api.KBits:
		for i := range 1 << s.Width {
			out = append(out, vec(s.Width, limbsOf(big.NewInt(int64(i)))...))
		}
	case api.KArray:
		out = m.allArrays(s)
	case api.KData:
		for _, c := range m.cons(s) {
			trees := []api.Value{tree(c.Name)}
			for _, sel := range c.Sels {
				trees = m.times(trees, m.all(sel.Sort))
			}
			out = append(out, trees...)
		}
	}
	slices.SortFunc(out, m.cmp)
	return out
}

// times is each tree with each value as one more argument.
func (m model) times(trees, vals []api.Value) []api.Value {
	var out []api.Value
	for _, x := range trees {
		for _, v := range vals {
			out = append(out, tree(x.Name, append(slices.Clone(x.Args), v)...))
		}
	}
	return out
}

func (m model) allArrays(s api.Sort) []api.Value {
	vals := m.all(s.Args[1])
	if len(vals) == 1 {
		return []api.Value{arr(s, vals[0])}
	}
	out := []api.Value{arr(s, vals[0])}
	for _, k := range m.all(s.Args[0]) {
		var more []api.Value
		for _, x := range out {
			for _, v := range vals {
				more = append(more, arr(s, vals[0], append(slices.Clone(x.Rows), row(k, v))...))
			}
		}
		out = more
	}
	for i, x := range out {
		out[i] = m.norm(x, s)
	}
	return out
}

// at is what an array has at a key: of the last row with that key; Else's, if there is none.
func (m model) at(v, key api.Value, s api.Sort) api.Value {
	for _, r := range slices.Backward(v.Rows) {
		if m.same(r.Key, key, s.Args[0]) {
			return r.Val
		}
	}
	return v.Else[0]
}

// same asks of arrays at all keys: if there are too many, at those of the rows and at one that is in none.
func (m model) same(a, b api.Value, s api.Sort) bool {
	switch s.Kind {
	case api.KData:
		if a.Name != b.Name {
			return false
		}
		for i, sel := range m.con(s, a.Name).Sels {
			if !m.same(a.Args[i], b.Args[i], sel.Sort) {
				return false
			}
		}
		return true
	case api.KArray:
		var keys []api.Value
		if _, ok := sort.Count(s.Args[0], m.g, small); ok {
			keys = m.all(s.Args[0])
		} else {
			if !m.same(a.Else[0], b.Else[0], s.Args[1]) {
				return false
			}
			for _, r := range slices.Concat(a.Rows, b.Rows) {
				keys = append(keys, r.Key)
			}
		}
		for _, k := range keys {
			if !m.same(m.at(a, k, s), m.at(b, k, s), s.Args[1]) {
				return false
			}
		}
		return true
	}
	return m.cmp(a, b) == 0
}

// first is the first value of a sort.
func (m model) first(s api.Sort) api.Value {
	switch s.Kind {
	case api.KBool:
		return yes(false)
	case api.KInt:
		return num(0)
	case api.KBits:
		return vec(s.Width)
	case api.KUser:
		return elem(s.Name, 0)
	case api.KArray:
		return arr(s, m.first(s.Args[1]))
	}
	ranks := m.ranks()
	for _, c := range m.cons(s) {
		if most(c, ranks) < ranks[s.Name] {
			out := tree(c.Name)
			for _, sel := range c.Sels {
				out.Args = append(out.Args, m.first(sel.Sort))
			}
			return out
		}
	}
	panic("no value of " + s.Name)
}

const endless = 1 << 30

// ranks are found from above: each is 1 more than the least that a constructor needs, till nothing gets less.
func (m model) ranks() map[string]int {
	ranks := map[string]int{}
	for _, data := range m.g.Datas {
		ranks[data.Name] = endless
	}
	for turned := true; turned; {
		turned = false
		for _, data := range m.g.Datas {
			for _, c := range data.Cons {
				if n := most(c, ranks) + 1; n < ranks[data.Name] {
					ranks[data.Name], turned = n, true
				}
			}
		}
	}
	return ranks
}

// most is the greatest rank of a constructor's datatypes, 0 if it has none.
func most(c api.Con, ranks map[string]int) int {
	n := 0
	for _, sel := range c.Sels {
		s := sel.Sort
		for s.Kind == api.KArray {
			s = s.Args[1]
		}
		n = max(n, ranks[s.Name])
	}
	return n
}

// sig is a signature of a few datatypes that CheckSig takes.
func (d *dice) sig() api.Sig {
	for {
		g := api.Sig{Users: []string{"U", "Bool"}}
		many := 1 + d.below(5)
		for i := range many {
			data := api.Datatype{Name: fmt.Sprint("D", i)}
			for j := range 1 + d.below(3) {
				var sorts []api.Sort
				for range d.below(4) * d.below(2) {
					sorts = append(sorts, d.part(many, 2))
				}
				data.Cons = append(data.Cons, con(fmt.Sprint(pick(d, []string{"c", "b ", "a"}), i, "_", j), sorts...))
			}
			g.Datas = append(g.Datas, data)
		}
		if sort.CheckSig(g) == api.OK {
			return g
		}
	}
}

// part is a sort over the datatypes of a signature in the making.
func (d *dice) part(many, depth int) api.Sort {
	switch d.below(8) {
	case 0:
		return boolean
	case 1:
		return wide(1 + d.below(2))
	case 2:
		return pick(d, []api.Sort{integer, user("U"), user("Bool"), wide(70)})
	case 3, 4:
		if depth > 0 {
			return array(d.part(many, depth-1), d.part(many, depth-1))
		}
	}
	return data(fmt.Sprint("D", d.below(many)))
}

// sort is one that may stand over a signature.
func (d *dice) sort(g api.Sig, depth int) api.Sort {
	n := d.below(10)
	switch {
	case n < 4 && depth > 0:
		return array(d.sort(g, depth-1), d.sort(g, depth-1))
	case n < 7 && len(g.Datas) > 0:
		return data(pick(d, g.Datas).Name)
	}
	return pick(d, []api.Sort{boolean, boolean, integer, wide(1), wide(2), wide(3), wide(64), wide(65), user(g.Users[0])})
}

// value is one of a sort in any form, and not too great.
func (m model) value(d *dice, s api.Sort, depth int) api.Value {
	switch s.Kind {
	case api.KBool:
		return yes(d.below(2) == 0)
	case api.KInt:
		mag := pick(d, []api.Nat{nil, {0}, {1}, {2}, {1, 0, 0}, {0, 1}, {0, 1, 0}, {5, 7}})
		return api.Value{Kind: api.VInt, Int: api.Int{Neg: d.below(3) == 0, Mag: slices.Clone(mag)}}
	case api.KBits:
		n := new(big.Int).And(big.NewInt(int64(d.below(3))-1), new(big.Int).Sub(new(big.Int).Lsh(big.NewInt(1), uint(s.Width)), big.NewInt(1)))
		return vec(s.Width, append(limbsOf(n), make(api.Nat, d.below(3))...)...)
	case api.KUser:
		return elem(s.Name, d.below(3))
	case api.KArray:
		v := arr(s, m.value(d, s.Args[1], depth-1))
		for range d.below(6) * min(1, max(0, depth)) {
			v.Rows = append(v.Rows, row(m.value(d, s.Args[0], depth-1), m.value(d, s.Args[1], depth-1)))
		}
		return v
	}
	if depth <= 0 {
		return m.first(s)
	}
	c := pick(d, m.cons(s))
	v := tree(c.Name)
	for _, sel := range c.Sels {
		v.Args = append(v.Args, m.value(d, sel.Sort, depth-1))
	}
	return v
}

// formed is the same value in another form: other limbs, rows in another order, rows that say what is said anyway.
func (m model) formed(d *dice, v api.Value, s api.Sort) api.Value {
	switch s.Kind {
	case api.KInt:
		v.Int.Mag = append(slices.Clone(v.Int.Mag), make(api.Nat, d.below(3))...)
		v.Int.Neg = v.Int.Neg || bigOf(false, v.Int.Mag).Sign() == 0 && d.below(2) == 0
	case api.KBits:
		v.Bits.Val = append(slices.Clone(v.Bits.Val), make(api.Nat, d.below(3))...)
	case api.KData:
		v.Args = slices.Clone(v.Args)
		for i, sel := range m.con(s, v.Name).Sels {
			v.Args[i] = m.formed(d, v.Args[i], sel.Sort)
		}
	case api.KArray:
		return m.formedArray(d, v, s)
	}
	return v
}

func (m model) formedArray(d *dice, v api.Value, s api.Sort) api.Value {
	n := m.norm(v, s)
	out := arr(s, m.formed(d, n.Else[0], s.Args[1]))
	for _, r := range mixed(d, n.Rows) {
		if d.below(3) == 0 { // said wrong, and right behind it
			out.Rows = append(out.Rows, row(m.formed(d, r.Key, s.Args[0]), m.formed(d, n.Else[0], s.Args[1])))
		}
		out.Rows = append(out.Rows, row(m.formed(d, r.Key, s.Args[0]), m.formed(d, r.Val, s.Args[1])))
	}
	if count, ok := sort.Count(s.Args[0], m.g, 16); ok && count > 0 && d.below(2) == 0 { // all keys said, and another value for those that are not
		out = arr(s, m.value(d, s.Args[1], 1))
		for _, k := range mixed(d, m.all(s.Args[0])) {
			out.Rows = append(out.Rows, row(m.formed(d, k, s.Args[0]), m.formed(d, m.at(n, k, s), s.Args[1])))
		}
	}
	return out
}
