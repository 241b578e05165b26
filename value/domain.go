package value

import (
	"tribunal/api"
	"tribunal/sort"
)

// domain is a sort, and what is known of its values.
type domain struct {
	api.Sort
	from, to *domain       // of arrays
	cons     []constructor // of a datatype
	rank     int           // of a datatype, once it is found
	size     int           // how many values there are; 0, once it is known that there is no end or more than MaxParts
	sized    bool
	nodes    []*node // all values, once they are listed
}

type constructor struct {
	name string
	args []*domain
}

// con is a constructor of a datatype.
func (d *domain) con(name string) (constructor, bool) {
	for _, con := range d.cons {
		if con.name == name {
			return con, true
		}
	}
	return constructor{}, false
}

// mark tells sorts apart.
type mark struct {
	kind     api.SortKind
	width    int
	name     string
	from, to *domain
}

// world has a domain for each sort that was asked for, and for those on which it leans.
type world struct {
	sig     api.Sig
	cons    map[string][]api.Con // of the datatypes
	domains map[mark]*domain
	datas   []*domain
}

func newWorld(g api.Sig) *world {
	w := &world{sig: g, cons: map[string][]api.Con{}, domains: map[mark]*domain{}}
	for _, data := range g.Datas {
		w.cons[data.Name] = data.Cons
	}
	return w
}

// domain is that of a sort that sort.Check takes.
func (w *world) domain(s api.Sort) *domain {
	d := &domain{Sort: s}
	if s.Kind == api.KArray {
		d.from, d.to = w.domain(s.Args[0]), w.domain(s.Args[1])
	}
	at := mark{s.Kind, s.Width, s.Name, d.from, d.to}
	if known, ok := w.domains[at]; ok {
		return known
	}
	w.domains[at] = d
	if s.Kind == api.KData {
		w.datas = append(w.datas, d)
		d.cons = w.constructors(w.cons[s.Name])
	}
	return d
}

func (w *world) constructors(cons []api.Con) []constructor {
	list := make([]constructor, len(cons))
	for i, con := range cons {
		list[i] = constructor{con.Name, make([]*domain, len(con.Sels))}
		for j, sel := range con.Sels {
			list[i].args[j] = w.domain(sel.Sort)
		}
	}
	return list
}

// count is how many values there are, if they are no more than MaxParts.
func (w *world) count(d *domain) (int, bool) {
	if !d.sized {
		d.size, _ = sort.Count(d.Sort, w.sig, api.MaxParts)
		d.sized = true
	}
	return d.size, d.size > 0
}
