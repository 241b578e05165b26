package sexp_test

import (
	"slices"
	"strings"

	"tribunal/api"
	"tribunal/lexis"
)

// depthAt is how many lists are open ahead of the token at i.
func depthAt(l []api.Token, i int) int {
	n := 0
	for _, t := range l[:i] {
		switch t.Kind {
		case api.TOpen:
			n++
		case api.TClose:
			n--
		}
	}
	return n
}

// partner is where the `(` of the `)` at i stands.
func partner(l []api.Token, i int) int {
	j := i - 1
	for l[j].Kind != api.TOpen || depthAt(l, j)+1 != depthAt(l, i) {
		j--
	}
	return j
}

// readByModel says by counting what Parse answers of tokens, but for MaxDeep: nodes and roots, or the place of the first fault in the list.
func readByModel(l []api.Token) ([]api.Sexp, []int, int, api.Errno) {
	for i, t := range l {
		if _, e := lexis.Write(t); e != api.OK {
			return nil, nil, i, api.ErrShape
		}
		if t.Kind == api.TClose && depthAt(l, i) == 0 {
			return nil, nil, i, api.ErrClose
		}
	}
	if depthAt(l, len(l)) > 0 {
		i := len(l) - 1
		for l[i].Kind != api.TOpen || depthAt(l, i)+1 != depthAt(l, len(l)) || endsBehind(l, i) {
			i--
		}
		return nil, nil, i, api.ErrEnd
	}
	nodes, roots := nodesByModel(l)
	return nodes, roots, 0, api.OK
}

// endsBehind tells whether a list that begins at i ends.
func endsBehind(l []api.Token, i int) bool {
	for j := i + 1; j <= len(l); j++ {
		if depthAt(l, j) <= depthAt(l, i) {
			return true
		}
	}
	return false
}

func nodesByModel(l []api.Token) ([]api.Sexp, []int) {
	var nodes []api.Sexp
	var ends, depths []int // of each node: where it ends, and how many lists it stands in
	for i, t := range l {
		switch t.Kind {
		case api.TOpen:
		case api.TClose:
			begin := partner(l, i)
			node := api.Sexp{Kind: api.SList, Token: l[begin]}
			for n := range nodes {
				if ends[n] > begin && depths[n] == depthAt(l, i) {
					node.Kids = append(node.Kids, n)
				}
			}
			nodes, ends, depths = append(nodes, node), append(ends, i), append(depths, depthAt(l, begin))
		default:
			nodes, ends, depths = append(nodes, atom(t)), append(ends, i), append(depths, depthAt(l, i))
		}
	}
	var roots []int
	for n := range nodes {
		if depths[n] == 0 {
			roots = append(roots, n)
		}
	}
	return nodes, roots
}

// soundByModel tells whether a node and all below it are sound.
func soundByModel(l []api.Sexp, n int) bool {
	switch node := l[n]; node.Kind {
	case api.SAtom:
		_, e := lexis.Write(node.Token)
		return e == api.OK && !slices.Contains([]api.TokenKind{api.TOpen, api.TClose}, node.Token.Kind)
	case api.SList:
		for _, k := range node.Kids {
			if k < 0 || k >= n || !soundByModel(l, k) {
				return false
			}
		}
		return true
	}
	return false
}

// textByModel is the text of a sound node, and its depth.
func textByModel(l []api.Sexp, n int) (string, int) {
	if l[n].Kind == api.SAtom {
		s, _ := lexis.Write(l[n].Token)
		return s, 0
	}
	var parts []string
	depth := 0
	for _, k := range l[n].Kids {
		s, d := textByModel(l, k)
		parts = append(parts, s)
		depth = max(depth, d)
	}
	return "(" + strings.Join(parts, " ") + ")", depth + 1
}
