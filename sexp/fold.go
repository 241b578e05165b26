package sexp

import (
	"tribunal/api"
	"tribunal/lexis"
)

// rule is how a number of a node comes of the numbers of its kids.
type rule struct {
	atom func(text string) int
	list func(kids int) int      // of a list ahead of its kids
	more func(list, kid int) int // and with one kid more
}

// depths are how many lists stand within one another.
func depths() rule {
	return rule{
		atom: func(string) int { return 0 },
		list: func(int) int { return 1 },
		more: func(list, kid int) int { return max(list, kid+1) },
	}
}

// sizes are how many bytes texts have. They may double at each node, so that all that are too long count as one too long.
func sizes() rule {
	return rule{
		atom: func(text string) int { return len(text) },
		list: func(kids int) int { return len("()") + max(0, kids-1) },
		more: func(list, kid int) int { return min(list+kid, api.MaxText+1) },
	}
}

// begin is a node's number ahead of its kids, if it is sound.
func (r rule) begin(l []api.Sexp, n int) (int, bool) {
	switch node := l[n]; node.Kind {
	case api.SAtom:
		text, e := lexis.Write(node.Token)
		if e != api.OK || node.Token.Kind == api.TOpen || node.Token.Kind == api.TClose {
			return 0, false
		}
		return r.atom(text), true
	case api.SList:
		for _, k := range node.Kids {
			if k < 0 || n <= k {
				return 0, false
			}
		}
		return r.list(len(node.Kids)), true
	}
	return 0, false
}

// fold is the number of a node, if it and all below it are sound. Each is looked at once, however many lists share it.
func fold(l []api.Sexp, root int, r rule) (int, api.Errno) {
	if !has(l, root) {
		return 0, api.ErrArg
	}
	number := map[int]int{}
	sound := true
	walk(l, root, func(n int) bool {
		if _, known := number[n]; known || !sound {
			return false
		}
		number[n], sound = r.begin(l, n)
		return sound
	}, func(n int) {
		for _, k := range kidsOf(l, n) {
			number[n] = r.more(number[n], number[k])
		}
	})
	if !sound {
		return 0, api.ErrShape
	}
	return number[root], api.OK
}
