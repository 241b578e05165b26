package sort

import "tribunal/api"

// CheckSig tells whether this may be declared.
func CheckSig(g api.Sig) api.Errno {
	_, e := look(g)
	return e
}

// The two kinds of names that may be the same without harm.
const (
	aSort = iota
	aSymbol
)

// key is a name among those that must differ from it.
type key struct {
	kind int
	name string
}

// declared is where names are declared: of datatypes their places, of all others, less than 0.
type declared map[key]int

// add tells whether the name was free.
func (d declared) add(kind int, name string, place int) bool {
	at := key{kind, name}
	if _, taken := d[at]; taken {
		return false
	}
	d[at] = place
	return true
}

// has tells whether a sort of the shapes, apart from its parts, is one that needs no declaration or has one.
func (d declared) has(s api.Sort) bool {
	if s.Kind != api.KUser && s.Kind != api.KData {
		return true
	}
	place, ok := d[key{aSort, s.Name}]
	return ok && (place >= 0) == (s.Kind == api.KData)
}

// data is the place of a datatype that is declared.
func (d declared) data(name string) int { return d[key{aSort, name}] }

// look checks a signature; it answers what is known of one that CheckSig takes, or that is but not grounded.
func look(g api.Sig) (*world, api.Errno) {
	n, ok := countNames(g)
	switch {
	case !ok:
		return nil, api.ErrMany
	case !named(g):
		return nil, api.ErrName
	}
	d := make(declared, n)
	if !d.fill(g) {
		return nil, api.ErrTwice
	}
	if e := d.sorts(g); e != api.OK {
		return nil, e
	}
	w := newWorld(g, d)
	switch {
	case w.nested():
		return nil, api.ErrNest
	case !w.grounded():
		return w, api.ErrGround
	}
	return w, api.OK
}

// countNames is how many names are declared, and whether they, and the parts of each, are as many as may be.
func countNames(g api.Sig) (int, bool) {
	n := len(g.Users) + len(g.Datas) + len(g.Funs)
	for _, data := range g.Datas {
		if len(data.Cons) < 1 || len(data.Cons) > api.MaxCons {
			return 0, false
		}
		n += len(data.Cons)
		for _, con := range data.Cons {
			if len(con.Sels) > api.MaxArgs {
				return 0, false
			}
			n += len(con.Sels)
		}
	}
	for _, fun := range g.Funs {
		if len(fun.Args) > api.MaxArgs {
			return 0, false
		}
	}
	return n, n <= api.MaxSymbols
}

// names goes through all names that are declared, till the caller has enough: the users', with a place of less than 0, and the datatypes', with theirs; each one's constructors and selectors; the functions'.
func names(g api.Sig, each func(kind int, name string, place int) bool) bool {
	for _, name := range g.Users {
		if !each(aSort, name, -1) {
			return false
		}
	}
	for i, data := range g.Datas {
		if !each(aSort, data.Name, i) || !membersOf(data, each) {
			return false
		}
	}
	for _, fun := range g.Funs {
		if !each(aSymbol, fun.Name, -1) {
			return false
		}
	}
	return true
}

func membersOf(data api.Datatype, each func(kind int, name string, place int) bool) bool {
	for _, con := range data.Cons {
		if !each(aSymbol, con.Name, -1) {
			return false
		}
		for _, sel := range con.Sels {
			if !each(aSymbol, sel.Name, -1) {
				return false
			}
		}
	}
	return true
}

func named(g api.Sig) bool {
	return names(g, func(_ int, name string, _ int) bool { return Name(name) })
}

// fill tells whether no name is there twice.
func (d declared) fill(g api.Sig) bool { return names(g, d.add) }

// sorts is the first fault of the sorts that g's declarations name.
func (d declared) sorts(g api.Sig) api.Errno {
	for _, data := range g.Datas {
		for _, con := range data.Cons {
			for _, sel := range con.Sels {
				if e := d.check(sel.Sort); e != api.OK {
					return e
				}
			}
		}
	}
	for _, fun := range g.Funs {
		for _, arg := range fun.Args {
			if e := d.check(arg); e != api.OK {
				return e
			}
		}
		if e := d.check(fun.Ret); e != api.OK {
			return e
		}
	}
	return api.OK
}

// check is Check, of what stands in the map.
func (d declared) check(s api.Sort) api.Errno {
	if e := fault(s); e != api.OK {
		return e
	}
	if !all(s, d.has) {
		return api.ErrSort
	}
	return api.OK
}
