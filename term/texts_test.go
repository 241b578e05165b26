package term_test

import (
	"strings"
	"testing"

	"tribunal/api"
	"tribunal/sort"
	"tribunal/term"
)

// isLong asks for the text of a term that has so many bytes.
func isLong(t *testing.T, b *term.Table, i, length int) {
	t.Helper()
	text, e := b.Text(i)
	switch {
	case length > api.MaxText && (text != "" || e != api.ErrLong):
		t.Errorf("Text(%d): %d bytes, error %d; it has %d", i, len(text), e, length)
	case length <= api.MaxText && (len(text) != length || e != api.OK):
		t.Errorf("Text(%d): %d bytes, error %d; want %d", i, len(text), e, length)
	}
}

// lengths are constants whose names have from 1 to 200 bytes.
func lengths() api.Sig {
	var g api.Sig
	for n := 1; n <= api.MaxName; n++ {
		g.Funs = append(g.Funs, fun(strings.Repeat("n", n), integer))
	}
	return g
}

// P5.6: a chain, as deep as its text may be long: of just MaxText bytes, and of one more.
func TestTextsOfChains(t *testing.T) {
	b := tableOf(t, lengths())
	const deep = api.MaxText/4 - 1
	for n := 1; n <= 8; n++ { // (- ) each, around a name of n bytes
		i := constant(t, b, strings.Repeat("n", n))
		for range deep {
			if n == 4 || n == 5 {
				i = app(t, b, api.OMinus, i)
			}
		}
		switch n {
		case 4:
			isLong(t, b, i, api.MaxText)
			if text, _ := b.Text(i); text != strings.Repeat("(- ", deep)+"nnnn"+strings.Repeat(")", deep) {
				t.Error("another text of the chain")
			}
		case 5:
			isLong(t, b, i, api.MaxText+1)
			for range 100000 {
				i = app(t, b, api.OMinus, i)
			}
			isLong(t, b, i, 2*api.MaxText)
		}
	}
}

// P5.6: a term is written out at each place, so that its text may be far longer than the table: lengths about MaxText, byte by byte.
func TestTextsOfShared(t *testing.T) {
	b := tableOf(t, lengths())
	name := func(n int) int { return constant(t, b, strings.Repeat("n", n)) }
	doubled, sizes := []int{name(200)}, []int{200}
	for k := 0; sizes[k] < api.MaxText; k++ {
		doubled = append(doubled, app(t, b, api.OAdd, doubled[k], doubled[k]))
		sizes = append(sizes, 2*sizes[k]+5)
		isLong(t, b, doubled[k+1], sizes[k+1])
	}
	i, length := name(9), 9
	for k := len(sizes) - 1; k >= 0; k-- {
		for length+sizes[k]+5 < api.MaxText-10 {
			i = app(t, b, api.OAdd, i, doubled[k])
			length += sizes[k] + 5
		}
	}
	isLong(t, b, i, length)
	if api.MaxText-length > 201 {
		i, length = app(t, b, api.OAdd, i, name(50)), length+55
	}
	just := api.MaxText - length - 5
	for n := just - 2; n <= just+2; n++ {
		isLong(t, b, app(t, b, api.OAdd, name(n), i), length+n+5)
		isLong(t, b, app(t, b, api.OAdd, i, name(n)), length+n+5)
	}
}

// P5.6: texts that would be longer than any number of bytes end soon.
func TestTextsWithoutEnd(t *testing.T) {
	b := tableOf(t, some())
	i := constant(t, b, "x")
	for range 5000 {
		i = app(t, b, api.OAdd, times(i, api.MaxArgs)...)
	}
	isLong(t, b, i, api.MaxText+1)
	isLong(t, b, app(t, b, api.OLe, constant(t, b, "x"), i), api.MaxText+1)
	p := constant(t, b, "p")
	for range 1000 {
		p = app(t, b, api.OIte, p, p, app(t, b, api.ONot, p))
	}
	isLong(t, b, p, api.MaxText+1)
}

// P5.6: the byte that is one too many is one of an argument's, or of what closes.
func TestTextsThatEndLong(t *testing.T) {
	b := tableOf(t, some())
	x, ones := constant(t, b, "x"), vector(t, b, 4096, 1)
	ite, length := app(t, b, api.OIte, app(t, b, api.OEq, ones, ones), x, x), len("(ite (=  ) x x)")+2*len("#b")+2*4096
	isLong(t, b, ite, length)
	i := app(t, b, api.OAdd, ite, ite, ite)
	length = 3*length + len("(+   )")
	isLong(t, b, i, length)
	last := (api.MaxText - len("(+)")) / (length + 1)
	isLong(t, b, app(t, b, api.OAdd, times(i, last)...), last*(length+1)+3)
	isLong(t, b, app(t, b, api.OAdd, times(i, last+1)...), (last+1)*(length+1)+3)
}

// P5.6: numbers of many digits, of both signs.
func TestTextsOfNumbers(t *testing.T) {
	b := tableOf(t, some())
	for _, c := range []struct {
		mag  api.Nat
		text string
	}{
		{nil, "0"}, {api.Nat{7}, "7"}, {api.Nat{10}, "10"}, {api.Nat{^uint64(0)}, "18446744073709551615"}, {api.Nat{0, 1}, "18446744073709551616"},
		{api.Nat{0, 0, 1}, "340282366920938463463374607431768211456"}, {api.Nat{7766279631452241920, 5}, "1" + zeros(20)},
	} {
		isTerm(t, b, put(t, b, api.Node{Op: api.ONum, Int: api.Int{Mag: c.mag}}), integer, c.text)
		i := put(t, b, api.Node{Op: api.ONum, Int: api.Int{Neg: true, Mag: c.mag}})
		if len(c.mag) > 0 {
			c.text = "(- " + c.text + ")"
		}
		isTerm(t, b, i, integer, c.text)
		isTerm(t, b, app(t, b, api.OMinus, i), integer, "(- "+c.text+")")
		isTerm(t, b, app(t, b, api.OSub, i, i), integer, "(- "+c.text+" "+c.text+")")
	}
}

// P5.6: names as sort.Quote has them, at each place where a name stands.
func TestTextsOfNames(t *testing.T) {
	for _, name := range []string{"a", "a b", "let", "0", "|", "Int", "true", "(", "a;b", "\"", "=", "-", strings.Repeat("w", 200), strings.Repeat(" ", 200)} {
		g := api.Sig{Users: []string{name}, Funs: []api.Fun{fun(name, user(name)), fun(name+"'", user(name), user(name))}}
		h := api.Sig{Datas: []api.Datatype{{Name: name, Cons: []api.Con{{Name: name}, {Name: name + "'", Sels: []api.Sel{{Name: name + "\"", Sort: data(name)}}}}}}}
		if len(name) >= 200 || name == "|" {
			g.Funs, h.Datas[0].Cons = g.Funs[:1], h.Datas[0].Cons[:1]
		}
		b, e := term.New(g)
		c, f := term.New(h)
		if name == "|" {
			if e != api.ErrName || f != api.ErrName {
				t.Errorf("%q: errors %d, %d", name, e, f)
			}
			continue
		}
		q, long := sort.Quote(name), sort.Quote(name+"'")
		isTerm(t, b, constant(t, b, name), user(name), q)
		s := array(user(name), user(name))
		isTerm(t, b, everywhere(t, b, s, 0), s, "((as const (Array "+q+" "+q+")) "+q+")")
		isTerm(t, c, named(t, c, api.OCon, name), data(name), q)
		isTerm(t, c, named(t, c, api.OIs, name, 0), boolean, "((_ is "+q+") "+q+")")
		if len(g.Funs) > 1 {
			isTerm(t, b, named(t, b, api.OFun, name+"'", 0), user(name), "("+long+" "+q+")")
			isTerm(t, c, named(t, c, api.OCon, name+"'", 0), data(name), "("+long+" "+q+")")
			isTerm(t, c, named(t, c, api.OSel, name+"\"", 0), data(name), "("+sort.Quote(name+"\"")+" "+q+")")
		}
	}
}

// P5.6: no such term.
func TestNoText(t *testing.T) {
	b := tableOf(t, some())
	for range 3 {
		for _, i := range []int{-1, b.Len(), b.Len() + 1, 1 << 40, -1 << 63, 1<<63 - 1} {
			if text, e := b.Text(i); text != "" || e != api.ErrArg {
				t.Errorf("Text(%d): %q, error %d", i, text, e)
			}
		}
		number(t, b, int64(b.Len()))
	}
}
