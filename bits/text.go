package bits

import (
	"strings"

	"tribunal/api"
	"tribunal/nat"
)

// The beginnings of both forms, and how long a text may be: as the widest vector in binary digits.
const (
	binary      = "#b"
	hexadecimal = "#x"
	maxText     = len(binary) + api.MaxWidth
)

// Text writes one.
func Text(b api.Bits, base int) (string, api.Errno) {
	switch {
	case base != 2 && base != 16:
		return "", api.ErrBase
	case !Right(b):
		return "", api.ErrBits
	case base == 16 && b.Width%4 != 0:
		return "", api.ErrBase
	}
	digits, _ := nat.Text(b.Val, base)
	if base == 16 {
		return hexadecimal + padded(digits, b.Width/4), api.OK
	}
	return binary + padded(digits, b.Width), api.OK
}

func padded(digits string, many int) string {
	return strings.Repeat("0", many-len(digits)) + digits
}

// Parse reads one.
func Parse(s string) (api.Bits, api.Errno) {
	if len(s) > maxText {
		return api.Bits{}, api.ErrLong
	}
	if digits, ok := strings.CutPrefix(s, binary); ok {
		return parsed(digits, 2, 1)
	}
	if digits, ok := strings.CutPrefix(s, hexadecimal); ok {
		return parsed(digits, 16, 4)
	}
	return api.Bits{}, api.ErrDigits
}

// parsed is the vector of digits each of which is so many bits.
func parsed(digits string, base, each int) (api.Bits, api.Errno) {
	val, err := nat.Parse(digits, base)
	if err != api.OK {
		return api.Bits{}, err
	}
	return From(each*len(digits), amount(val))
}
