package sort

import "tribunal/api"

// link is a datatype that another one names in a selector's sort.
type link struct {
	to      int
	inArray bool
}

// world is what is known of datatypes whose sorts all have their declarations.
type world struct {
	datas []api.Datatype
	where declared
	links [][]link
	order []int // the datatypes, each behind those that it leans on and that don't lean on it
	ring  []int // of each datatype the number of its ring: those that lean on one another
}

func newWorld(g api.Sig, d declared) *world {
	w := &world{datas: g.Datas, where: d, links: make([][]link, len(g.Datas))}
	for i, data := range g.Datas {
		for _, con := range data.Cons {
			for _, sel := range con.Sels {
				w.links[i] = w.linksOf(w.links[i], sel.Sort, false)
			}
		}
	}
	w.findRings()
	return w
}

// linksOf adds the datatypes that stand in a sort.
func (w *world) linksOf(links []link, s api.Sort, inArray bool) []link {
	if s.Kind == api.KData {
		return append(links, link{w.where.data(s.Name), inArray})
	}
	for _, arg := range s.Args {
		links = w.linksOf(links, arg, true)
	}
	return links
}

// visit is how far the search for rings is: marks are the numbers of the datatypes in the order in which they were met, from 1 on.
type visit struct {
	*world
	marks []int
	path  []int // those met whose ring is not yet known
	rings int
}

// findRings is Tarjan's search for strong components; it meets the ends of links first, which makes the order.
func (w *world) findRings() {
	w.ring = make([]int, len(w.datas))
	v := &visit{world: w, marks: make([]int, len(w.datas))}
	met := 0
	for i := range w.datas {
		if v.marks[i] == 0 {
			v.enter(i, &met)
		}
	}
}

// enter answers the lowest mark that the datatype leads back to.
func (v *visit) enter(i int, met *int) int {
	*met++
	v.marks[i] = *met
	low := *met
	start := len(v.path)
	v.path = append(v.path, i)
	for _, l := range v.links[i] {
		switch {
		case v.marks[l.to] == 0:
			low = min(low, v.enter(l.to, met))
		case v.ring[l.to] == 0:
			low = min(low, v.marks[l.to])
		}
	}
	if low == v.marks[i] {
		v.rings++
		for _, j := range v.path[start:] {
			v.ring[j] = v.rings
		}
		v.order = append(v.order, v.path[start:]...)
		v.path = v.path[:start]
	}
	return low
}

// nested tells whether a datatype has, in an array, one that is or leans on it.
func (w *world) nested() bool {
	for i := range w.datas {
		for _, l := range w.links[i] {
			if l.inArray && w.ring[i] == w.ring[l.to] {
				return true
			}
		}
	}
	return false
}
