package sort

import "tribunal/api"

// Ground: which datatypes have a value.
func Ground(g api.Sig) []bool {
	w, e := look(g)
	if e != api.OK && e != api.ErrGround {
		return nil
	}
	return w.ground()
}

func (w *world) grounded() bool {
	for _, is := range w.ground() {
		if !is {
			return false
		}
	}
	return true
}

// ground goes by the world's order, so that one round finds all but what rings hold.
func (w *world) ground() []bool {
	known := make([]bool, len(w.datas))
	open := append([]int(nil), w.order...)
grow:
	for {
		var rest []int
		for _, i := range open {
			if w.groundedBy(w.datas[i], known) {
				known[i] = true
			} else {
				rest = append(rest, i)
			}
		}
		if len(rest) == len(open) {
			break grow
		}
		open = rest
	}
	return known
}

// groundedBy tells whether a datatype has a constructor all of whose selectors' sorts are known to be grounded.
func (w *world) groundedBy(data api.Datatype, known []bool) bool {
	for _, con := range data.Cons {
		if w.conGrounded(con, known) {
			return true
		}
	}
	return false
}

func (w *world) conGrounded(con api.Con, known []bool) bool {
	for _, sel := range con.Sels {
		to := sel.Sort
		for to.Kind == api.KArray {
			to = to.Args[1]
		}
		if to.Kind == api.KData && !known[w.where.data(to.Name)] {
			return false
		}
	}
	return true
}
