package eval_test

import (
	"math/big"
	"testing"

	"tribunal/api"
	"tribunal/eval"
	"tribunal/term"
)

// holds asks for what Holds tells.
func holds(t *testing.T, b *term.Table, in api.Interp, want bool, roots ...int) {
	t.Helper()
	holdsOr(t, b, in, want, api.OK, roots...)
}

// holdsNot asks of Holds for an error.
func holdsNot(t *testing.T, b *term.Table, in api.Interp, want api.Errno, roots ...int) {
	t.Helper()
	holdsOr(t, b, in, false, want, roots...)
}

func holdsOr(t *testing.T, b *term.Table, in api.Interp, want bool, errno api.Errno, roots ...int) {
	t.Helper()
	if got, e := eval.Holds(b, in, roots...); got != want || e != errno {
		t.Errorf("Holds(%v): %v, error %d; want %v, error %d", roots, got, e, want, errno)
	}
}

// P11.4: all of them, none of them, one that is false at each place.
func TestHolds(t *testing.T) {
	b := tableOf(t, some())
	p, q, x := call(t, b, "p"), call(t, b, "q"), call(t, b, "x")
	in := funs(funval("p", yes(true)))
	holds(t, b, in, true)
	holds(t, b, in, true, p)
	holds(t, b, in, true, p, p, p)
	holds(t, b, in, false, q)
	for at := range 5 {
		roots := []int{p, p, p, p, p}
		roots[at] = q
		holds(t, b, in, false, roots...)
		roots[at] = x // ahead of which, or behind which, one is false
		holdsNot(t, b, in, api.ErrSorts, roots...)
		holdsNot(t, b, in, api.ErrSorts, append(roots, q)...)
		holdsNot(t, b, in, api.ErrSorts, append([]int{q}, roots...)...)
	}
	for _, name := range []string{"x", "u", "fake", "l", "c", "b1", "a", "abb"} {
		holdsNot(t, b, in, api.ErrSorts, call(t, b, name))
	}
}

// P11.4: Terms' errors come ahead of ErrSorts.
func TestHoldsFirstError(t *testing.T) {
	b := tableOf(t, some())
	x := call(t, b, "x")
	most := numeral(t, b, new(big.Int).Sub(pow(64*api.MaxLimbs), big.NewInt(1)))
	over := app(t, b, api.OAdd, most, numeral(t, b, big.NewInt(1)))
	wrong := funs(funval("x", yes(true)))
	holdsNot(t, nil, wrong, api.ErrNil, x, 99)
	holdsNot(t, b, wrong, api.ErrArg, x, 99)
	holdsNot(t, b, wrong, api.ErrInterp, x, over)
	holdsNot(t, b, funs(), api.ErrBig, x, over)
	holdsNot(t, b, funs(), api.ErrSorts, x, most)
}
