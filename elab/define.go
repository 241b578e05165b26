package elab

import (
	"slices"
	"strconv"

	"tribunal/api"
	"tribunal/fresh"
	"tribunal/sort"
	"tribunal/term"
)

// DefineSort defines a sort; with an error the node.
func (e *Env) DefineSort(name string, params []string, l []api.Sexp, root int) (int, api.Errno) {
	switch {
	case !e.made():
		return 0, api.ErrNil
	case !sound(l, root):
		return root, api.ErrShape
	}
	if errno := nameFault(name, params, e.names.families.has(name)); errno != api.OK {
		return 0, errno
	}
	r := e.run(l, nil)
	for _, p := range params {
		r.sorts[p] = api.Sort{Kind: api.KUser, Name: p}
	}
	if at, errno := r.caught(func() { r.sort(root) }); errno != api.OK {
		return at, errno
	}
	e.names.families.put(name, family{takes: len(params), definition: &definition{params: fresh.List(params), body: below(l, root)}})
	return 0, api.OK
}

// DefineFun defines a function; with an error the node.
func (e *Env) DefineFun(name string, params []api.Sel, ret api.Sort, l []api.Sexp, root int) (int, api.Errno) {
	switch {
	case !e.made():
		return 0, api.ErrNil
	case !sound(l, root):
		return root, api.ErrShape
	}
	var words []string
	var sorts []api.Sort
	for _, p := range params {
		words, sorts = append(words, p.Name), append(sorts, p.Sort)
	}
	if errno := nameFault(name, words, e.names.symbols.has(name)); errno != api.OK {
		return 0, errno
	}
	for _, s := range append(sorts, ret) {
		if errno := sort.Check(s, e.sig); errno != api.OK {
			return 0, errno
		}
	}
	d := &definition{params: words, sorts: fresh.Sorts(sorts)}
	if at, errno := e.tryBody(d, ret, l, root); errno != api.OK {
		return at, errno
	}
	d.body = below(l, root)
	e.names.symbols.put(name, symbol{takes: len(params), definition: d})
	return 0, api.OK
}

// nameFault is what is wrong with the names of a definition.
func nameFault(name string, params []string, inUse bool) api.Errno {
	sorted := slices.Sorted(slices.Values(params))
	switch {
	case !sort.Name(name) || slices.ContainsFunc(params, func(p string) bool { return !sort.Name(p) }):
		return api.ErrName
	case inUse:
		return api.ErrThere
	case len(slices.Compact(sorted)) < len(params):
		return api.ErrTwice
	case len(params) > api.MaxArgs:
		return api.ErrMany
	}
	return api.OK
}

// tryBody makes a function's body a term in a table in which its parameters are declared, by names that nobody else has.
func (e *Env) tryBody(d *definition, ret api.Sort, l []api.Sexp, root int) (int, api.Errno) {
	names := e.freeNames(len(d.params))
	var funs []api.Fun
	for i, s := range d.sorts {
		funs = append(funs, api.Fun{Name: names[i], Ret: s})
	}
	g := e.sig
	g.Funs = slices.Concat(g.Funs, funs)
	t, errno := term.New(g)
	if errno != api.OK {
		return 0, errno
	}
	r := e.run(l, t)
	return r.caught(func() {
		for i, p := range d.params {
			r.bind(p, r.add(root, api.Node{Op: api.OFun, Name: names[i]}))
		}
		r.ofSort(root, r.term(root), ret)
	})
}

// freeNames are so many functions' names that are not in use.
func (e *Env) freeNames(many int) []string {
	var list []string
	for i := 0; len(list) < many; i++ {
		if name := "!" + strconv.Itoa(i); !e.names.symbols.has(name) {
			list = append(list, name)
		}
	}
	return list
}

// below is a copy of a node and what is below it: the node is the last one.
func below(l []api.Sexp, root int) []api.Sexp {
	place := map[int]int{root: 0}
	order := []int{root}
	for i := 0; i < len(order); i++ {
		for _, k := range kidsOf(l[order[i]]) {
			if _, met := place[k]; !met {
				place[k] = 0
				order = append(order, k)
			}
		}
	}
	slices.Sort(order)
	for i, n := range order {
		place[n] = i
	}
	own := make([]api.Sexp, len(order))
	for i, n := range order {
		own[i] = api.Sexp{Kind: l[n].Kind, Token: l[n].Token}
		for _, k := range kidsOf(l[n]) {
			own[i].Kids = append(own[i].Kids, place[k])
		}
	}
	return own
}

// kidsOf are a list's; what stands in an atom's Kids is not looked at.
func kidsOf(s api.Sexp) []int {
	if s.Kind != api.SList {
		return nil
	}
	return s.Kids
}
