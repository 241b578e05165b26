package term

import (
	"tribunal/api"
	"tribunal/fresh"
	"tribunal/whole"
)

// kept is a node in memory of its own, with those fields alone that its Op names, numbers in canonical form.
func kept(n api.Node) api.Node {
	own := api.Node{Op: n.Op, Args: fresh.List(n.Args)}
	switch n.Op {
	case api.OFun, api.OCon, api.OSel, api.OIs:
		own.Name = n.Name
	case api.ONum:
		own.Int = whole.Norm(n.Int)
	case api.OBits:
		own.Bits = api.Bits{Width: n.Bits.Width, Val: whole.Norm(api.Int{Mag: n.Bits.Val}).Mag}
	case api.OConst:
		own.Sort = fresh.Sort(n.Sort)
	case api.OExtract, api.ORepeat, api.OZeroExt, api.OSignExt, api.ORotL, api.ORotR:
		own.Params = fresh.List(n.Params)
	}
	return own
}
