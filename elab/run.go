package elab

import (
	"strconv"

	"tribunal/api"
	"tribunal/lexis"
	"tribunal/sort"
	"tribunal/term"
)

// run is the elaboration that one call asks for.
type run struct {
	text
	names    *names
	table    *term.Table
	steps    int
	numerals map[string]int // those that were read: they may be long, and stand at many places
}

// text is s-expressions and what is bound where they stand.
type text struct {
	nodes []api.Sexp
	bound
	pin int // the node at which all faults within are told; or free
}

// bound is what names of sorts and of terms are bound to.
type bound struct {
	sorts map[string]api.Sort
	terms map[string]*scope
}

// free is no node: faults are told where they are.
const free = -1

// scope is where a name is bound to a term. It embeds the scope around it that binds the same name; where there is none, nil.
type scope struct {
	*scope
	term int
}

// fault is what elaboration gives up with.
type fault struct {
	node  int
	errno api.Errno
}

func newText(nodes []api.Sexp, pin int) text {
	return text{nodes, bound{map[string]api.Sort{}, map[string]*scope{}}, pin}
}

func (e *Env) run(l []api.Sexp, t *term.Table) *run {
	return &run{text: newText(l, free), names: &e.names, table: t, numerals: map[string]int{}}
}

// caught is the fault with which the work gave up.
func (r *run) caught(work func()) (at int, errno api.Errno) {
	defer func() {
		switch f := recover().(type) {
		case nil:
		case fault:
			at, errno = f.node, f.errno
		default:
			panic(f)
		}
	}()
	work()
	return 0, api.OK
}

func (r *run) fail(n int, e api.Errno) { panic(fault{r.place(n), e}) }

// place is where faults of a node are told.
func (t *text) place(n int) int {
	if t.pin != free {
		return t.pin
	}
	return n
}

// step counts an s-expression that is made a term or a sort.
func (r *run) step(n int) {
	r.steps++
	if r.steps > api.MaxElab {
		r.fail(n, api.ErrMany)
	}
}

// within has the work done in another text; all faults there are told at a node of this one.
func (r *run) within(n int, d *definition, work func(root int)) {
	outer := r.text
	r.text = newText(d.body, r.place(n))
	work(len(d.body) - 1)
	r.text = outer
}

func (b bound) bind(name string, i int) { b.terms[name] = &scope{b.terms[name], i} }

func (b bound) unbind(name string) { b.terms[name] = b.terms[name].scope }

func (t *text) kids(n int) []int { return kidsOf(t.nodes[n]) }

func (t *text) isAtom(n int, kind api.TokenKind) bool {
	return t.nodes[n].Kind == api.SAtom && t.nodes[n].Token.Kind == kind
}

func (t *text) isWord(n int) bool { return t.isAtom(n, api.TSymbol) }

// bare is a bare word, or nothing: no word without bars is empty.
func (t *text) bare(n int) string {
	if !t.isWord(n) || t.nodes[n].Token.Quoted {
		return ""
	}
	return t.nodes[n].Token.Text
}

// written is what stands in an atom, without bars.
func (t *text) written(n int) string { return t.nodes[n].Token.Text }

// reserved tells of a bare word whether it is: no other name among them has to stand between bars.
func reserved(word string) bool { return sort.Name(word) && sort.Quote(word) != word }

// most is the greatest number in a head or a width that is looked at any further.
const most = 1000000000

// small is what the numeral says, if it is at most that.
func small(numeral string) (int, bool) {
	n, err := strconv.Atoi(numeral)
	if err != nil || n > most {
		return 0, false
	}
	return n, true
}

func isNumeral(s string) bool {
	_, e := lexis.Write(api.Token{Kind: api.TNumeral, Text: s})
	return e == api.OK
}
