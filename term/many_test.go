package term_test

import (
	"math/big"
	"reflect"
	"slices"
	"strings"
	"testing"

	"tribunal/api"
	"tribunal/sort"
	"tribunal/term"
	"tribunal/whole"
)

// maker makes nodes over the terms of a model: most of them terms, some with faults, now and then with more than one.
type maker struct {
	dice
	*model
	names []string
}

func newMaker(seed uint64, m *model) *maker {
	k := &maker{dice: dice{seed}, model: m, names: append([]string{"nobody", "", "U", "|"}, m.sig.Users...)}
	for _, f := range m.sig.Funs {
		k.names = append(k.names, f.Name)
	}
	for _, d := range m.sig.Datas {
		k.names = append(k.names, d.Name)
		for _, c := range d.Cons {
			k.names = append(k.names, c.Name)
			for _, s := range c.Sels {
				k.names = append(k.names, s.Name)
			}
		}
	}
	return k
}

// often is true but for once in so many times.
func (k *maker) often(n int) bool { return k.below(n) > 0 }

// argument is a term of that sort, if there is one, but for now and then.
func (k *maker) argument(s api.Sort) int {
	if !k.often(80) {
		return pick(&k.dice, []int{-1, len(k.nodes), len(k.nodes) + 1, 1 << 40, -1 << 63})
	}
	for range 60 {
		i := k.below(max(len(k.nodes), 1))
		if i < len(k.sorts) && (sort.Same(k.sorts[i], s) || !k.often(200)) {
			return i
		}
	}
	return k.below(max(len(k.nodes), 1))
}

// sort is one of those that there are.
func (k *maker) sort() api.Sort {
	if len(k.sorts) == 0 {
		return integer
	}
	return pick(&k.dice, k.sorts)
}

func (k *maker) kind(kind api.SortKind, other api.Sort) api.Sort {
	for range 60 {
		if s := k.sort(); s.Kind == kind {
			return s
		}
	}
	return other
}

func (k *maker) node() api.Node {
	rows := chapter()
	r := pick(&k.dice, rows)
	n := api.Node{Op: r.op}
	if k.below(6) == 0 {
		n.Op = pick(&k.dice, []api.Op{api.OFun, api.OFun, api.ONum, api.OBits})
		r = k.rows[n.Op]
	}
	if !k.often(60) {
		n.Op = api.Op(k.below(100) - 10)
	}
	n.Name = k.name(n.Op)
	k.fillNumbers(&n)
	n.Args = k.arguments(&n, r)
	if !k.often(25) {
		n.Args = append(n.Args, k.argument(k.sort()))
	}
	if !k.often(25) && len(n.Args) > 0 {
		n.Args = n.Args[1:]
	}
	return n
}

func (k *maker) name(op api.Op) string {
	for range 40 {
		name := pick(&k.dice, k.names)
		if _, _, ok := k.declared(op, name); ok || !k.often(80) {
			return name
		}
	}
	return pick(&k.dice, k.names)
}

// fillNumbers fills fields whether the Op names them or not.
func (k *maker) fillNumbers(n *api.Node) {
	n.Int = whole.Of(int64(k.below(7) - 3))
	n.Int.Mag = append(n.Int.Mag, make(api.Nat, k.below(2))...)
	if k.below(9) == 0 {
		n.Int = api.Int{Neg: k.below(2) == 0, Mag: api.Nat{k.roll(), k.roll() % 3, 0}}
	}
	w := pick(&k.dice, []int{1, 2, 4, 4, 8, 64, 65})
	n.Bits = api.Bits{Width: w, Val: api.Nat{k.roll() >> (64 - min(w, 64))}}
	if !k.often(8) {
		n.Bits = api.Bits{Width: pick(&k.dice, []int{-1, 0, 1, 4, 64, 4096, 4097}), Val: pick(&k.dice, []api.Nat{nil, {0, 0}, {1}, {2}, {15}, {16, 0}, {0, 1}})}
	}
	for range 1 + k.below(2) {
		n.Params = append(n.Params, pick(&k.dice, []int{0, 0, 1, 2, 3, 4, 5, 7, 8, 2047, 2048, 4095, 4096, 4097, -1}))
	}
	if n.Op == api.OExtract && k.often(5) {
		slices.SortFunc(n.Params, func(a, b int) int { return b - a })
	}
	n.Sort = k.kind(api.KArray, array(integer, integer))
	if !k.often(12) {
		n.Sort = pick(&k.dice, []api.Sort{integer, {}, array(integer, user("V")), array(wide(0), integer), {Kind: api.KArray}, array(boolean, array(integer, boolean))})
	}
}

func (k *maker) arguments(n *api.Node, r row) []int {
	if sorts, _, ok := k.declared(n.Op, n.Name); ok {
		return k.each(sorts)
	}
	a, s, v, w := k.kind(api.KArray, integer), k.sort(), k.kind(api.KBits, boolean), k.kind(api.KBits, boolean)
	bound := map[string]api.Sort{"Bool": boolean, "Int": integer, "A": a, "s": s, "v": v, "w": w}
	if strings.HasPrefix(r.args, "A") {
		bound["s"], bound["t"] = array(a, a).Args[0], integer
		if a.Kind == api.KArray {
			bound["s"], bound["t"] = a.Args[0], a.Args[1]
		}
	}
	if n.Op == api.OConst && len(n.Sort.Args) == 2 {
		bound["t"] = n.Sort.Args[1]
	}
	var sorts []api.Sort
	for _, letter := range strings.Fields(r.args) {
		many := 1
		if strings.HasSuffix(letter, "*") {
			many = pick(&k.dice, []int{1, 2, 2, 2, 3, 3, 4, 64, 65})
		}
		sorts = append(sorts, slices.Repeat([]api.Sort{bound[strings.TrimSuffix(letter, "*")]}, many)...)
	}
	return k.each(sorts)
}

func (k *maker) each(sorts []api.Sort) []int {
	var list []int
	for _, s := range sorts {
		list = append(list, k.argument(s))
	}
	return list
}

// P5.2, P5.3, P5.5: many nodes, held against the chapter's words.
func TestManyNodes(t *testing.T) {
	seen, ops := map[api.Errno]int{}, map[api.Op]int{}
	for seed := range uint64(24) {
		m := newModel(some())
		b := tableOf(t, some())
		k := newMaker(seed, m)
		for range 1500 {
			n := k.node()
			want, wantError := m.add(n)
			got, e := b.Add(n)
			seen[wantError]++
			if wantError == api.OK {
				ops[n.Op]++
			}
			if got != want || e != wantError || b.Len() != len(m.nodes) {
				t.Fatalf("Add(%s): %d, error %d; want %d, error %d; %d terms", brief(n), got, e, want, wantError, b.Len())
			}
		}
		sameTerms(t, b, m)
		sameBelow(t, b, k)
	}
	for _, e := range []api.Errno{api.OK, api.ErrOp, api.ErrSymbol, api.ErrArgs, api.ErrArg, api.ErrParam, api.ErrWidth, api.ErrSorts, api.ErrLinear} {
		if seen[e] < 100 {
			t.Errorf("error %d only %d times", e, seen[e])
		}
	}
	for _, r := range chapter() {
		if ops[r.op] < 20 {
			t.Errorf("Op %d only %d times", r.op, ops[r.op])
		}
	}
}

// sameTerms asks for all terms.
func sameTerms(t *testing.T, b *term.Table, m *model) {
	t.Helper()
	for i, length := range m.lengths() {
		isNode(t, b, i, m.nodes[i])
		if s, ok := b.Sort(i); !ok || !sort.Same(s, m.sorts[i]) {
			t.Errorf("Sort(%d): %+v, %v; want %+v", i, s, ok, m.sorts[i])
		}
		text, e := b.Text(i)
		switch {
		case length > api.MaxText && (e != api.ErrLong || text != ""):
			t.Errorf("Text(%d): %d bytes, error %d; it has %d", i, len(text), e, length)
		case length <= api.MaxText && (e != api.OK || len(text) != length):
			t.Errorf("Text(%d): %d bytes, error %d; want %d bytes", i, len(text), e, length)
		case length < 20000 && text != m.text(i):
			t.Errorf("Text(%d): %.300q; want %.300q", i, text, m.text(i))
		}
		if n, e := b.Add(m.nodes[i]); n != i || e != api.OK {
			t.Errorf("again %s: %d, error %d; want %d", brief(m.nodes[i]), n, e, i)
		}
	}
}

func sameBelow(t *testing.T, b *term.Table, k *maker) {
	t.Helper()
	for range 300 {
		var roots []int
		for range k.below(5) {
			roots = append(roots, k.below(len(k.nodes)+20)-10)
		}
		if got, want := b.Below(roots...), k.under(roots...); !slices.Equal(got, want) {
			t.Errorf("Below(%v): %v; want %v", roots, got, want)
		}
	}
}

// P5.5: no two terms are the same; arguments stand ahead; a term stays as it is, whatever comes behind it.
func TestTermsStay(t *testing.T) {
	m := newModel(some())
	b := tableOf(t, some())
	k := newMaker(77, m)
	var nodes []api.Node
	var sorts []api.Sort
	seen := map[string]int{}
	for range 3000 {
		n := k.node()
		m.add(n)
		if _, e := b.Add(n); e == api.OK && b.Len() > len(nodes) {
			told, _ := b.Node(len(nodes))
			s, _ := b.Sort(len(nodes))
			nodes, sorts = append(nodes, told), append(sorts, s)
			if at, ok := seen[brief(told)+full(told)]; ok {
				t.Fatalf("%d and %d are both %s", at, len(nodes)-1, brief(told))
			}
			seen[brief(told)+full(told)] = len(nodes) - 1
		}
	}
	if len(nodes) < 1000 {
		t.Errorf("only %d terms", len(nodes))
	}
	for i, n := range nodes {
		isNode(t, b, i, n)
		if s, _ := b.Sort(i); !reflect.DeepEqual(s, sorts[i]) {
			t.Errorf("Sort(%d): %+v; it was %+v", i, s, sorts[i])
		}
		for _, arg := range n.Args {
			if arg < 0 || arg >= i {
				t.Errorf("term %d has the argument %d", i, arg)
			}
		}
	}
}

// full is what brief leaves out.
func full(n api.Node) string {
	s, _ := sort.Text(n.Sort)
	text := s + string(big.NewInt(int64(len(n.Args))).String())
	for _, arg := range n.Args {
		text += " " + big.NewInt(int64(arg)).String()
	}
	return text
}
