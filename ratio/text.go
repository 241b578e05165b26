package ratio

import (
	"strings"

	"tribunal/api"
	"tribunal/nat"
	"tribunal/whole"
)

// Text writes a in lowest terms: the numerator and, if it is not 1, the denominator behind a slash.
func Text(a api.Rat) (string, api.Errno) {
	if err := check(a); err != api.OK {
		return "", err
	}
	f := read(a).lowest()
	num, _ := whole.Print(api.Int(f.number))
	if isOne(f.den) {
		return num, api.OK
	}
	den, _ := nat.Text(f.den, 10)
	return num + "/" + den, api.OK
}

// Parse reads a numerator, and behind a slash a denominator, or none.
func Parse(s string) (api.Rat, api.Errno) {
	above, under, slash := strings.Cut(s, "/")
	if !slash {
		under = "1"
	}
	num, errNum := whole.Parse(above)
	den, errDen := nat.Parse(under, 10)
	switch {
	case errNum == api.ErrDigits || errDen == api.ErrDigits:
		return api.Rat{}, api.ErrDigits
	case errNum != api.OK || errDen != api.OK || len(num.Mag) > api.MaxRat || len(den) > api.MaxRat:
		return api.Rat{}, api.ErrBig // here it comes ahead of a denominator of 0
	}
	return Of(num, api.Int{Mag: den})
}
