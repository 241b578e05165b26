package term

import (
	"tribunal/api"
	"tribunal/whole"
)

// kept is a node in memory of its own, with those fields alone that its Op names, numbers in canonical form.
func kept(n api.Node) api.Node {
	own := api.Node{Op: n.Op, Args: copied(n.Args)}
	switch n.Op {
	case api.OFun, api.OCon, api.OSel, api.OIs:
		own.Name = n.Name
	case api.ONum:
		own.Int = whole.Norm(n.Int)
	case api.OBits:
		own.Bits = api.Bits{Width: n.Bits.Width, Val: whole.Norm(api.Int{Mag: n.Bits.Val}).Mag}
	case api.OConst:
		own.Sort = copiedSort(n.Sort)
	case api.OExtract, api.ORepeat, api.OZeroExt, api.OSignExt, api.ORotL, api.ORotR:
		own.Params = copied(n.Params)
	}
	return own
}

func copied[T any](list []T) []T { return append([]T(nil), list...) }

// copiedSort is of a sort that was checked, so that it doesn't hold itself.
func copiedSort(s api.Sort) api.Sort {
	s.Args = copiedSorts(s.Args)
	return s
}

func copiedSorts(list []api.Sort) []api.Sort {
	list = copied(list)
	for i := range list {
		list[i] = copiedSort(list[i])
	}
	return list
}

// copiedSig is of a signature that was checked.
func copiedSig(g api.Sig) api.Sig {
	own := api.Sig{Users: copied(g.Users), Datas: copied(g.Datas), Funs: copied(g.Funs)}
	for i, data := range own.Datas {
		own.Datas[i].Cons = copiedCons(data.Cons)
	}
	for i, fun := range own.Funs {
		own.Funs[i].Args = copiedSorts(fun.Args)
		own.Funs[i].Ret = copiedSort(fun.Ret)
	}
	return own
}

func copiedCons(list []api.Con) []api.Con {
	list = copied(list)
	for i, con := range list {
		sels := copied(con.Sels)
		for j, sel := range sels {
			sels[j].Sort = copiedSort(sel.Sort)
		}
		list[i].Sels = sels
	}
	return list
}
