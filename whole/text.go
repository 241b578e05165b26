package whole

import (
	"strings"

	"tribunal/api"
	"tribunal/nat"
)

// Print writes decimal digits, with a minus ahead below 0.
func Print(a api.Int) (string, api.Errno) {
	n := read(a)
	digits, err := nat.Text(n.limbs(), 10)
	if err == api.OK && n.neg {
		return "-" + digits, api.OK
	}
	return digits, err
}

// Parse reads decimal digits, with a minus ahead or none.
func Parse(s string) (api.Int, api.Errno) {
	digits, neg := strings.CutPrefix(s, "-")
	size, err := nat.Parse(digits, 10)
	if err != api.OK {
		return api.Int{}, err
	}
	return signed(amount(size), neg).answer()
}
