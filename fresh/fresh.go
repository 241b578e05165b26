// Package fresh copies plain data into memory of its own, so that what is handed in is not kept and what is kept is not handed out.
package fresh

import "tribunal/api"

// List is of values that share no memory.
func List[T any](list []T) []T { return append([]T(nil), list...) }

// Sort is of a sort that doesn't hold itself.
func Sort(s api.Sort) api.Sort {
	s.Args = Sorts(s.Args)
	return s
}

// Sorts is of sorts none of which holds itself.
func Sorts(list []api.Sort) []api.Sort {
	list = List(list)
	for i := range list {
		list[i] = Sort(list[i])
	}
	return list
}

// Sig is of a signature that sort.CheckSig takes.
func Sig(g api.Sig) api.Sig {
	own := api.Sig{Users: List(g.Users), Datas: Datas(g.Datas), Funs: List(g.Funs)}
	for i, fun := range own.Funs {
		own.Funs[i] = Fun(fun)
	}
	return own
}

// Datas is of datatypes in which no sort holds itself.
func Datas(list []api.Datatype) []api.Datatype {
	list = List(list)
	for i, data := range list {
		list[i].Cons = cons(data.Cons)
	}
	return list
}

// Fun is of a function in which no sort holds itself.
func Fun(f api.Fun) api.Fun {
	f.Args = Sorts(f.Args)
	f.Ret = Sort(f.Ret)
	return f
}

func cons(list []api.Con) []api.Con {
	list = List(list)
	for i, con := range list {
		sels := List(con.Sels)
		for j, sel := range sels {
			sels[j].Sort = Sort(sel.Sort)
		}
		list[i].Sels = sels
	}
	return list
}
