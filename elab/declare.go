package elab

import (
	"slices"

	"tribunal/api"
	"tribunal/fresh"
	"tribunal/sort"
)

// DeclareSort declares a sort.
func (e *Env) DeclareSort(name string) api.Errno {
	switch {
	case !e.made():
		return api.ErrNil
	case e.names.families.has(name):
		return api.ErrThere
	}
	g := e.sig
	g.Users = slices.Concat(g.Users, []string{name})
	if errno := sort.CheckSig(g); errno != api.OK {
		return errno
	}
	e.sig = g
	e.names.families.put(name, family{Sort: api.Sort{Kind: api.KUser, Name: name}})
	return api.OK
}

// DeclareDatas declares datatypes.
func (e *Env) DeclareDatas(l []api.Datatype) api.Errno {
	switch {
	case !e.made():
		return api.ErrNil
	case slices.ContainsFunc(l, e.hasNameOf):
		return api.ErrThere
	}
	g := e.sig
	g.Datas = slices.Concat(g.Datas, l)
	if errno := sort.CheckSig(g); errno != api.OK {
		return errno
	}
	l = fresh.Datas(l)
	e.sig.Datas = slices.Concat(e.sig.Datas, l)
	for _, data := range l {
		e.put(data)
	}
	return api.OK
}

// hasNameOf tells whether a name that a datatype would declare is in use.
func (e *Env) hasNameOf(data api.Datatype) bool {
	return e.names.families.has(data.Name) || slices.ContainsFunc(data.Cons, func(con api.Con) bool {
		return e.names.symbols.has(con.Name) || slices.ContainsFunc(con.Sels, func(sel api.Sel) bool {
			return e.names.symbols.has(sel.Name)
		})
	})
}

func (e *Env) put(data api.Datatype) {
	e.names.families.put(data.Name, family{Sort: api.Sort{Kind: api.KData, Name: data.Name}})
	for _, con := range data.Cons {
		e.names.symbols.put(con.Name, symbol{Node: api.Node{Op: api.OCon, Name: con.Name}, takes: len(con.Sels)})
		for _, sel := range con.Sels {
			e.names.symbols.put(sel.Name, symbol{Node: api.Node{Op: api.OSel, Name: sel.Name}, takes: 1})
		}
	}
}

// DeclareFun declares a function.
func (e *Env) DeclareFun(f api.Fun) api.Errno {
	switch {
	case !e.made():
		return api.ErrNil
	case e.names.symbols.has(f.Name):
		return api.ErrThere
	}
	g := e.sig
	g.Funs = slices.Concat(g.Funs, []api.Fun{f})
	if errno := sort.CheckSig(g); errno != api.OK {
		return errno
	}
	e.sig.Funs = slices.Concat(e.sig.Funs, []api.Fun{fresh.Fun(f)})
	e.names.symbols.put(f.Name, symbol{Node: api.Node{Op: api.OFun, Name: f.Name}, takes: len(f.Args)})
	return api.OK
}
