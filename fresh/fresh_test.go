package fresh_test

import (
	"reflect"
	"testing"

	"tribunal/api"
	"tribunal/fresh"
)

func array(from, to api.Sort) api.Sort { return api.Sort{Kind: api.KArray, Args: []api.Sort{from, to}} }

// some has sorts within sorts wherever a sort may stand.
func some() api.Sig {
	integer, deep := api.Sort{Kind: api.KInt}, array(api.Sort{Kind: api.KBits, Width: 3}, array(api.Sort{Kind: api.KUser, Name: "U"}, api.Sort{Kind: api.KBool}))
	return api.Sig{
		Users: []string{"U"},
		Datas: []api.Datatype{{Name: "D", Cons: []api.Con{{Name: "c", Sels: []api.Sel{{Name: "s", Sort: deep}}}}}},
		Funs:  []api.Fun{{Name: "f", Args: []api.Sort{integer, array(deep, integer)}, Ret: array(integer, integer)}},
	}
}

// Copies are the same; what is turned in a copy, its spare room too, is not seen in what it is of.
func TestCopies(t *testing.T) {
	g := some()
	own := fresh.Sig(g)
	if !reflect.DeepEqual(own, g) {
		t.Fatalf("%+v; want %+v", own, g)
	}
	own.Users[0] = "turned"
	own.Datas[0].Cons[0].Sels[0].Sort.Args[1].Args[0].Name = "turned"
	own.Datas[0].Cons[0].Sels[0].Name = "turned"
	own.Datas[0].Cons[0].Name = "turned"
	own.Datas[0].Name = "turned"
	own.Funs[0].Args[1].Args[0].Args[1].Args[0].Name = "turned"
	own.Funs[0].Args[0].Kind = 77
	own.Funs[0].Ret.Args[0].Kind = 77
	own.Funs[0].Name = "turned"
	if !reflect.DeepEqual(g, some()) {
		t.Errorf("%+v", g)
	}
	for _, l := range [][]int{nil, {}, {1}, {1, 2, 3}} {
		copied := fresh.List(append(make([]int, 0, 9), l...))
		if len(copied) != len(l) || len(l) == 0 && copied != nil {
			t.Errorf("%v; want %v", copied, l)
		}
	}
	if s := fresh.Sorts(nil); s != nil {
		t.Errorf("%v", s)
	}
}
