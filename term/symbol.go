package term

import "tribunal/api"

// symbol is what a name that is declared stands for: OFun, OCon or OSel, of which sorts, and its own.
type symbol struct {
	op   api.Op
	args []api.Sort
	ret  api.Sort
}

// symbolsOf are the symbols of a signature; none of them has another's name, or CheckSig had refused it.
func symbolsOf(g api.Sig) map[string]symbol {
	symbols := map[string]symbol{}
	for _, fun := range g.Funs {
		symbols[fun.Name] = symbol{api.OFun, fun.Args, fun.Ret}
	}
	for _, data := range g.Datas {
		own := api.Sort{Kind: api.KData, Name: data.Name}
		for _, con := range data.Cons {
			symbols[con.Name] = symbol{api.OCon, sortsOf(con.Sels), own}
			for _, sel := range con.Sels {
				symbols[sel.Name] = symbol{api.OSel, []api.Sort{own}, sel.Sort}
			}
		}
	}
	return symbols
}

func sortsOf(sels []api.Sel) []api.Sort {
	var list []api.Sort
	for _, sel := range sels {
		list = append(list, sel.Sort)
	}
	return list
}

// symbolOf is what an OFun, OCon, OSel or OIs applies, if its Name is declared as it must be.
func (t *Table) symbolOf(n api.Node) (symbol, bool) {
	s, ok := t.symbols[n.Name]
	switch {
	case ok && s.op == n.Op:
		return s, true
	case ok && s.op == api.OCon && n.Op == api.OIs:
		return symbol{api.OIs, []api.Sort{s.ret}, api.Sort{Kind: api.KBool}}, true
	}
	return symbol{}, false
}
