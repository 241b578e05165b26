package value

import "tribunal/api"

// kind is what a value is: each Kind has a type of its own.
type kind interface {
	// rest is the value without the fields that its kind names.
	rest() api.Value
}

type (
	truth   struct{ *api.Value }
	number  struct{ *api.Value }
	vector  struct{ *api.Value }
	tree    struct{ *api.Value }
	array   struct{ *api.Value }
	element struct{ *api.Value }
	unknown struct{ *api.Value } // of a Kind that is none
)

func kindOf(v *api.Value) kind {
	switch v.Kind {
	case api.VBool:
		return truth{v}
	case api.VInt:
		return number{v}
	case api.VBits:
		return vector{v}
	case api.VTree:
		return tree{v}
	case api.VArray:
		return array{v}
	case api.VElem:
		return element{v}
	}
	return unknown{v}
}

func (x truth) rest() api.Value {
	v := *x.Value
	v.Bool = false
	return v
}

func (x number) rest() api.Value {
	v := *x.Value
	v.Int = api.Int{}
	return v
}

func (x vector) rest() api.Value {
	v := *x.Value
	v.Bits = api.Bits{}
	return v
}

func (x tree) rest() api.Value {
	v := *x.Value
	v.Name, v.Args = "", nil
	return v
}

func (x array) rest() api.Value {
	v := *x.Value
	v.Sort, v.Rows, v.Else = api.Sort{}, nil, nil
	return v
}

func (x element) rest() api.Value {
	v := *x.Value
	v.Name, v.Index = "", 0
	return v
}

func (x unknown) rest() api.Value { return *x.Value }
