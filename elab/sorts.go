package elab

import (
	"tribunal/api"
	"tribunal/sort"
)

// sort is what an s-expression means as a sort. All names in it are known, so that sort.Check has nothing against it that sort.Text has not.
func (r *run) sort(n int) api.Sort {
	r.step(n)
	s := r.anySort(n)
	if _, e := sort.Text(s); e != api.OK {
		r.fail(n, e)
	}
	return s
}

// anySort may be one that is too great, or has no width that may be.
func (r *run) anySort(n int) api.Sort {
	if r.isWord(n) {
		return r.sortOf(n, n, nil)
	}
	kids := r.kids(n)
	switch {
	case len(kids) == 0:
		r.fail(n, api.ErrForm)
	case r.bare(kids[0]) == "_":
		return r.bitVec(n, kids)
	case !r.isWord(kids[0]):
		r.fail(n, api.ErrForm)
	}
	return r.sortOf(n, kids[0], kids[1:])
}

// bitVec is the sort of so many bits. Where they are too many to be counted it has none here: neither may be.
func (r *run) bitVec(n int, kids []int) api.Sort {
	if len(kids) != 3 || !r.isWord(kids[1]) || r.written(kids[1]) != "BitVec" || !r.isAtom(kids[2], api.TNumeral) {
		r.fail(n, api.ErrForm)
	}
	width, _ := small(r.written(kids[2]))
	return api.Sort{Kind: api.KBits, Width: width}
}

// sortOf is what a word means, with sorts behind it or alone.
func (r *run) sortOf(n, word int, behind []int) api.Sort {
	var args []api.Sort
	for _, k := range behind {
		args = append(args, r.sort(k))
	}
	is := r.family(n, r.written(word))
	switch {
	case len(args) != is.takes:
		r.fail(n, api.ErrArgs)
	case is.definition != nil:
		return r.definedSort(n, is.definition, args)
	case len(args) > 0:
		is.Args = args
	case n != word:
		r.fail(n, api.ErrForm)
	}
	return is.Sort
}

// family is what a sort's name stands for here.
func (r *run) family(n int, name string) family {
	if s, bound := r.sorts[name]; bound {
		return family{Sort: s}
	}
	is := r.names.families.means[name]
	switch {
	case is == nil:
		r.fail(n, api.ErrUnbound)
	case is.Kind == api.KBits: // BitVec stands for no sort but with its number
		r.fail(n, api.ErrForm)
	}
	return *is
}

func (r *run) definedSort(n int, d *definition, args []api.Sort) api.Sort {
	var s api.Sort
	r.within(n, d, func(root int) {
		for i, p := range d.params {
			r.sorts[p] = args[i]
		}
		s = r.sort(root)
	})
	return s
}
