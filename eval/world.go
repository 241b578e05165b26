package eval

import "tribunal/api"

// world is what is declared, by names.
type world struct {
	datas   map[string]api.Datatype
	symbols map[string]*symbol
	domains map[mark]*domain
}

// symbol is a function or a selector: of which sorts its arguments are, and itself.
type symbol struct {
	args  []*domain
	ret   *domain
	con   string // of a selector: the constructor that has it
	place int    // and which of that one's selectors it is
}

// mark tells sorts apart.
type mark struct {
	kind     api.SortKind
	width    int
	name     string
	from, to *domain
}

// newWorld is of a signature that sort.CheckSig takes.
func newWorld(g api.Sig) *world {
	w := &world{map[string]api.Datatype{}, map[string]*symbol{}, map[mark]*domain{}}
	for _, data := range g.Datas {
		w.datas[data.Name] = data
		own := api.Sort{Kind: api.KData, Name: data.Name}
		for _, con := range data.Cons {
			for place, sel := range con.Sels {
				w.symbols[sel.Name] = &symbol{[]*domain{w.domain(own)}, w.domain(sel.Sort), con.Name, place}
			}
		}
	}
	for _, fun := range g.Funs {
		s := &symbol{ret: w.domain(fun.Ret)}
		for _, arg := range fun.Args {
			s.args = append(s.args, w.domain(arg))
		}
		w.symbols[fun.Name] = s
	}
	return w
}

// domain is that of a sort that sort.Check takes.
func (w *world) domain(s api.Sort) *domain {
	at := mark{kind: s.Kind, width: s.Width, name: s.Name}
	if s.Kind == api.KArray {
		at.from, at.to = w.domain(s.Args[0]), w.domain(s.Args[1])
	}
	if w.domains[at] == nil {
		w.domains[at] = &domain{Sort: s, world: w}
	}
	return w.domains[at]
}

// near is what is declared of a sort, and of all on which it leans.
func (w *world) near(s api.Sort) api.Sig {
	var g api.Sig
	met := map[string]struct{}{}
	open := []api.Sort{s}
	for len(open) > 0 {
		s := open[len(open)-1]
		open = append(open[:len(open)-1], s.Args...)
		if _, twice := met[s.Name]; twice {
			continue
		}
		met[s.Name] = struct{}{}
		switch s.Kind {
		case api.KUser:
			g.Users = append(g.Users, s.Name)
		case api.KData:
			data := w.datas[s.Name]
			g.Datas = append(g.Datas, data)
			open = append(open, within(data)...)
		}
	}
	return g
}

// within is the sorts of a datatype's selectors.
func within(data api.Datatype) []api.Sort {
	var list []api.Sort
	for _, con := range data.Cons {
		for _, sel := range con.Sels {
			list = append(list, sel.Sort)
		}
	}
	return list
}

// takes tells whether they are values of the arguments' sorts, as many as there are.
func (s *symbol) takes(args []api.Value) bool {
	if len(args) != len(s.args) {
		return false
	}
	for i, d := range s.args {
		if !d.has(args[i]) {
			return false
		}
	}
	return true
}

// norms are the normal forms of arguments that it takes.
func (s *symbol) norms(args []api.Value) ([]*node, api.Errno) {
	list := make([]*node, len(args))
	for i, d := range s.args {
		n, e := d.norm(args[i])
		if e != api.OK {
			return nil, e
		}
		list[i] = n
	}
	return list, api.OK
}
