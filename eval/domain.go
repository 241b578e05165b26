package eval

import (
	"tribunal/api"
	"tribunal/value"
)

// domain is a sort, and what is known of its values.
type domain struct {
	api.Sort
	world *world
	near  *api.Sig // what is declared of that on which the sort leans, once that was asked for
	keys  int      // of an array: from how many keys it goes, once that was asked for; 0, if there is no end of them, or they are too many
	sized bool
}

// sig is all that plays a part for the sort's values. The layers below look through what they are handed at each call: so they are handed no more than that.
func (d *domain) sig() api.Sig {
	if d.near == nil {
		near := d.world.near(d.Sort)
		d.near = &near
	}
	return *d.near
}

// has tells whether it is a value of the sort.
func (d *domain) has(v api.Value) bool { return value.Check(v, d.Sort, d.sig()) == api.OK }

// norm is the normal form of a value of the sort.
func (d *domain) norm(v api.Value) (*node, api.Errno) {
	return made(value.Norm(v, d.Sort, d.sig()))
}

// first is the first value of the sort.
func (d *domain) first() (*node, api.Errno) { return made(value.Default(d.Sort, d.sig())) }

// made is the node of a value that a layer below answered.
func made(v api.Value, e api.Errno) (*node, api.Errno) {
	if e != api.OK {
		return nil, e
	}
	return read(&v), api.OK
}
