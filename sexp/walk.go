package sexp

import "tribunal/api"

// step is a list on the way to its kids.
type step struct {
	list int
	next int // which of its kids is next
}

// walk goes through a node and what stands in it, by an explicit stack. Enter tells whether the kids are wanted; leave comes behind them.
func walk(l []api.Sexp, root int, enter func(n int) bool, leave func(n int)) {
	var way []step
	into := func(n int) {
		if enter(n) {
			way = append(way, step{list: n})
		}
	}
	into(root)
	for len(way) > 0 {
		top := &way[len(way)-1]
		kids := kidsOf(l, top.list)
		if top.next == len(kids) {
			leave(top.list)
			way = way[:len(way)-1]
			continue
		}
		top.next++
		into(kids[top.next-1])
	}
}

// tokens are those of a sound node.
func tokens(l []api.Sexp, root int) []api.Token {
	var list []api.Token
	walk(l, root, func(n int) bool {
		if l[n].Kind == api.SAtom {
			list = append(list, l[n].Token)
			return false
		}
		list = append(list, api.Token{Kind: api.TOpen, Text: "("})
		return true
	}, func(int) {
		list = append(list, api.Token{Kind: api.TClose, Text: ")"})
	})
	return list
}
