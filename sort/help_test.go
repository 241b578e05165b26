package sort_test

import (
	"fmt"
	"slices"
	"strings"
	"testing"

	"tribunal/api"
	"tribunal/sort"
)

var (
	boolean = api.Sort{Kind: api.KBool}
	integer = api.Sort{Kind: api.KInt}
)

func data(name string) api.Sort { return api.Sort{Kind: api.KData, Name: name} }

func user(name string) api.Sort { return api.Sort{Kind: api.KUser, Name: name} }

func wide(n int) api.Sort { return api.Sort{Kind: api.KBits, Width: n} }

func array(from, to api.Sort) api.Sort { return api.Sort{Kind: api.KArray, Args: []api.Sort{from, to}} }

// con has selectors of those sorts, named behind it.
func con(name string, sorts ...api.Sort) api.Con {
	c := api.Con{Name: name}
	for i, s := range sorts {
		c.Sels = append(c.Sels, api.Sel{Name: fmt.Sprint(name, "_", i), Sort: s})
	}
	return c
}

func datatype(name string, cons ...api.Con) api.Datatype { return api.Datatype{Name: name, Cons: cons} }

func datas(list ...api.Datatype) api.Sig { return api.Sig{Datas: list} }

func users(names ...string) api.Sig { return api.Sig{Users: names} }

func funs(list ...api.Fun) api.Sig { return api.Sig{Funs: list} }

func fun(name string, ret api.Sort, args ...api.Sort) api.Fun {
	return api.Fun{Name: name, Args: args, Ret: ret}
}

// both is what two signatures declare.
func both(a, b api.Sig) api.Sig {
	return api.Sig{Users: slices.Concat(a.Users, b.Users), Datas: slices.Concat(a.Datas, b.Datas), Funs: slices.Concat(a.Funs, b.Funs)}
}

// some is the signature of the chapter's examples, and more.
func some() api.Sig {
	return api.Sig{
		Users: []string{"U", "my sort"},
		Datas: []api.Datatype{
			datatype("List", con("nil"), con("cons", integer, data("List"))),
			datatype("Color", con("red"), con("green")),
			datatype("Pair", con("pair", data("Color"), boolean)),
			datatype("Unit", con("unit")),
			datatype("Tree", con("leaf", user("U")), con("node", data("Forest"))),
			datatype("Forest", con("none"), con("some", data("Tree"), data("Forest"))),
			datatype("Box", con("box", array(integer, data("Pair")))),
			datatype("Still", con("still", array(data("List"), data("Unit")), data("Unit"))),
		},
		Funs: []api.Fun{fun("f", boolean, integer, user("U")), fun("c", data("Pair"))},
	}
}

// full is a sort with as many parts as it is asked for, an odd number.
func full(parts int, leaf api.Sort) api.Sort {
	if parts == 1 {
		return leaf
	}
	half := (parts - 1) / 2
	half -= 1 - half%2
	return array(full(half, leaf), full(parts-1-half, leaf))
}

// deep is an array of that depth.
func deep(depth int, leaf api.Sort) api.Sort {
	for range depth - 1 {
		leaf = array(integer, leaf)
	}
	return leaf
}

// count is how many parts a sort has.
func count(s api.Sort) int {
	n := 1
	for _, a := range s.Args {
		n += count(a)
	}
	return n
}

// endless holds itself.
func endless() api.Sort {
	list := make([]api.Sort, 2)
	list[0], list[1] = integer, api.Sort{Kind: api.KArray, Args: list}
	return list[1]
}

// bushy has 2 to the n leaves, in the memory of n pairs.
func bushy(n int, leaf api.Sort) api.Sort {
	for range n {
		leaf = array(leaf, leaf)
	}
	return leaf
}

// isText holds the text of a sort against what it should be.
func isText(t *testing.T, s api.Sort, want string) {
	t.Helper()
	if got, e := sort.Text(s); e != api.OK || got != want {
		t.Errorf("Text(%+v): %q, error %d; want %q", s, got, e, want)
	}
}

func noText(t *testing.T, what string, s api.Sort, want api.Errno) {
	t.Helper()
	if got, e := sort.Text(s); e != want || got != "" {
		t.Errorf("Text of %s: %q, error %d; want error %d", what, got, e, want)
	}
	if e := sort.Check(s, some()); e != want {
		t.Errorf("Check of %s: error %d; want %d", what, e, want)
	}
	if sort.Finite(s, some()) {
		t.Errorf("%s is finite", what)
	}
	if n, ok := sort.Count(s, some(), 1000); ok || n != 0 {
		t.Errorf("Count of %s: %d, %v", what, n, ok)
	}
}

func isSig(t *testing.T, what string, g api.Sig, want api.Errno) {
	t.Helper()
	if e := sort.CheckSig(g); e != want {
		t.Errorf("CheckSig of %s: error %d; want %d", what, e, want)
	}
	switch got := sort.Ground(g); {
	case want == api.OK && (len(got) != len(g.Datas) || slices.Contains(got, false)):
		t.Errorf("Ground of %s: %v", what, got)
	case want == api.ErrGround && (len(got) != len(g.Datas) || !slices.Contains(got, false)):
		t.Errorf("Ground of %s, which is not grounded: %v", what, got)
	case want != api.OK && want != api.ErrGround && len(got) != 0:
		t.Errorf("Ground of %s, which is refused: %v", what, got)
	}
	if want != api.OK {
		if n, ok := sort.Count(boolean, g, 5); n != 0 || ok || sort.Finite(boolean, g) {
			t.Errorf("a count by %s, which is refused: %d, %v", what, n, ok)
		}
	}
}

func isGround(t *testing.T, g api.Sig, want ...bool) {
	t.Helper()
	if got := sort.Ground(g); !slices.Equal(got, want) {
		t.Errorf("Ground(%+v): %v; want %v", g, got, want)
	}
}

// hasCount asks for a number of values: at the most that is as many, above, below.
func hasCount(t *testing.T, s api.Sort, g api.Sig, want int) {
	t.Helper()
	if !sort.Finite(s, g) {
		t.Errorf("%+v is not finite", s)
	}
	for _, most := range []int{want, want + 1, 2*want + 1, int(^uint(0) >> 1)} {
		if most < want {
			continue
		}
		if n, ok := sort.Count(s, g, most); n != want || !ok {
			t.Errorf("Count(%+v, most %d): %d, %v; want %d", s, most, n, ok, want)
		}
	}
	for _, most := range []int{want - 1, want / 2, 1, 0, -1, -int(^uint(0)>>1) - 1} {
		if most >= want {
			continue
		}
		if n, ok := sort.Count(s, g, most); n != 0 || ok {
			t.Errorf("Count(%+v, most %d): %d, %v; there are %d", s, most, n, ok, want)
		}
	}
}

// hasNone asks that a sort has no count, whatever the most is.
func hasNone(t *testing.T, s api.Sort, g api.Sig, finite bool) {
	t.Helper()
	if sort.Finite(s, g) != finite {
		t.Errorf("Finite(%+v): %v", s, !finite)
	}
	for _, most := range []int{-1, 0, 1, 2, 1000, 1 << 31, int(^uint(0) >> 1)} {
		if n, ok := sort.Count(s, g, most); n != 0 || ok {
			t.Errorf("Count(%+v, most %d): %d, %v", s, most, n, ok)
		}
	}
}

func letters(n int) string { return strings.Repeat("x", n) }

// dice are numbers that look like any, the same ones each time.
type dice struct{ state uint64 }

func (d *dice) roll() uint64 {
	d.state += 0x9e3779b97f4a7c15
	z := d.state
	z = (z ^ z>>30) * 0xbf58476d1ce4e5b9
	z = (z ^ z>>27) * 0x94d049bb133111eb
	return z ^ z>>31
}

func (d *dice) below(n int) int { return int(d.roll() % uint64(n)) }

func pick[T any](d *dice, list []T) T { return list[d.below(len(list))] }

func mixed[T any](d *dice, list []T) []T {
	list = slices.Clone(list)
	for i := range list {
		j := d.below(i + 1)
		list[i], list[j] = list[j], list[i]
	}
	return list
}
