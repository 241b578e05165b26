package eval

import (
	"slices"

	"tribunal/api"
	"tribunal/sort"
)

// interpretation is one that may be.
type interpretation struct {
	*world
	given     map[string]*api.FunVal
	functions map[string]*function // those that were asked for
}

// function is what a function is, or a selector of trees that have it not.
type function struct {
	*symbol
	cases []entry // by rising arguments; of those with the same the first one counts
	other result
}

// entry is a Case.
type entry struct {
	args []*node
	val  result
}

// result is what a function may be somewhere. Its normal form is asked for where that is told, and not ahead: it may be too great.
type result struct {
	given *api.Value // nil: the first value of the sort
	norm  *node
}

// enter opens an interpretation.
func enter(g api.Sig, in api.Interp) (*interpretation, api.Errno) {
	if e := sort.CheckSig(g); e != api.OK {
		return nil, e
	}
	m := &interpretation{newWorld(g), map[string]*api.FunVal{}, map[string]*function{}}
	for i := range in.Funs {
		if !m.take(&in.Funs[i]) {
			return nil, api.ErrInterp
		}
	}
	return m, api.OK
}

// take adds a FunVal, if it may be.
func (m *interpretation) take(f *api.FunVal) bool {
	s, declared := m.symbols[f.Name]
	if !declared || m.given[f.Name] != nil || !s.ret.has(f.Else) {
		return false
	}
	for _, c := range f.Cases {
		if !s.takes(c.Args) || !s.ret.has(c.Val) {
			return false
		}
	}
	m.given[f.Name] = f
	return true
}

// function is that of a name that is declared.
func (m *interpretation) function(name string) (*function, api.Errno) {
	if f, known := m.functions[name]; known {
		return f, api.OK
	}
	f := &function{symbol: m.symbols[name]}
	if given := m.given[name]; given != nil {
		f.other.given = &given.Else
		if e := f.addCases(given.Cases); e != api.OK {
			return nil, e
		}
	}
	m.functions[name] = f
	return f, api.OK
}

func (f *function) addCases(cases []api.Case) api.Errno {
	for i := range cases {
		args, e := f.norms(cases[i].Args)
		if e != api.OK {
			return e
		}
		f.cases = append(f.cases, entry{args, result{given: &cases[i].Val}})
	}
	slices.SortStableFunc(f.cases, func(a, b entry) int { return compareLists(a.args, b.args) })
	return api.OK
}

// apply is what a function, or a selector, is at arguments of its sorts.
func (m *interpretation) apply(name string, args []*node) (*node, api.Errno) {
	f, e := m.function(name)
	switch {
	case e != api.OK:
		return nil, e
	case f.con != "" && f.con == args[0].Name:
		return args[0].args[f.place], api.OK
	}
	return f.at(args).told(f.ret)
}

func (f *function) at(args []*node) *result {
	place, there := slices.BinarySearchFunc(f.cases, args, func(c entry, args []*node) int { return compareLists(c.args, args) })
	if there {
		return &f.cases[place].val
	}
	return &f.other
}

// told is the normal form, of a sort.
func (r *result) told(d *domain) (*node, api.Errno) {
	if r.norm != nil {
		return r.norm, api.OK
	}
	var e api.Errno
	if r.given == nil {
		r.norm, e = d.first()
	} else {
		r.norm, e = d.norm(*r.given)
	}
	return r.norm, e
}
