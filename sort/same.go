package sort

import "tribunal/api"

// pair is two lists of so many sorts, by their first ones.
type pair struct {
	a, b *api.Sort
	n    int
}

// Same tells whether they are one sort.
func Same(a, b api.Sort) bool {
	if !alike(a, b) {
		return false
	}
	if len(a.Args) == 0 {
		return true
	}
	return sameLists(a.Args, b.Args)
}

// sameLists goes on from pair to pair of lists. Lists may be shared many times over, or hold themselves: so once there were more pairs than a sort of the shapes has, none is looked at twice.
func sameLists(a, b []api.Sort) bool {
	var seen map[pair]int
	open := [][2][]api.Sort{{a, b}}
	for looks := 0; len(open) > 0; looks++ {
		x, y := open[len(open)-1][0], open[len(open)-1][1]
		open = open[:len(open)-1]
		if looks >= api.MaxSortParts {
			if seen == nil {
				seen = map[pair]int{}
			}
			at := pair{&x[0], &y[0], len(x)}
			if seen[at] > 0 {
				continue
			}
			seen[at] = 1
		}
		for i := range x {
			if !alike(x[i], y[i]) {
				return false
			}
			if n := len(x[i].Args); n > 0 && &x[i].Args[0] != &y[i].Args[0] {
				open = append(open, [2][]api.Sort{x[i].Args, y[i].Args})
			}
		}
	}
	return true
}

// alike tells whether two sorts are the same, apart from what their Args are.
func alike(a, b api.Sort) bool {
	return a.Kind == b.Kind && a.Width == b.Width && a.Name == b.Name && len(a.Args) == len(b.Args)
}
