package value

import (
	"tribunal/api"
	"tribunal/fresh"
)

// copied is a node's value in memory of its own.
func copied(v api.Value) api.Value {
	v.Int.Mag, v.Bits.Val = fresh.List(v.Int.Mag), fresh.List(v.Bits.Val)
	v.Sort = fresh.Sort(v.Sort)
	v.Args, v.Else = copiedList(v.Args), copiedList(v.Else)
	v.Rows = fresh.List(v.Rows)
	for i, r := range v.Rows {
		v.Rows[i] = api.Row{Key: copied(r.Key), Val: copied(r.Val)}
	}
	return v
}

func copiedList(list []api.Value) []api.Value {
	list = fresh.List(list)
	for i, v := range list {
		list[i] = copied(v)
	}
	return list
}
