package elab

import (
	"slices"

	"tribunal/api"
	"tribunal/sort"
)

// sameSig tells whether the same is declared, in the same order.
func sameSig(a, b api.Sig) bool {
	return slices.Equal(a.Users, b.Users) && slices.EqualFunc(a.Datas, b.Datas, sameData) && slices.EqualFunc(a.Funs, b.Funs, sameFun)
}

func sameData(a, b api.Datatype) bool {
	return a.Name == b.Name && slices.EqualFunc(a.Cons, b.Cons, sameCon)
}

func sameCon(a, b api.Con) bool {
	return a.Name == b.Name && slices.EqualFunc(a.Sels, b.Sels, sameSel)
}

func sameSel(a, b api.Sel) bool { return a.Name == b.Name && sort.Same(a.Sort, b.Sort) }

func sameFun(a, b api.Fun) bool {
	return a.Name == b.Name && slices.EqualFunc(a.Args, b.Args, sort.Same) && sort.Same(a.Ret, b.Ret)
}
