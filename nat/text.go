package nat

import (
	"math"
	"strconv"
	"strings"

	"tribunal/api"
)

// The greatest power of 10 below 2^64, and how many zeros it has.
const (
	decimalChunk = 10_000_000_000_000_000_000
	decimalWidth = 19
)

// Text writes a in digits of the base.
func Text(a api.Nat, base int) (string, api.Errno) {
	a = trim(a)
	switch {
	case !isBase(base):
		return "", api.ErrBase
	case tooLong(a):
		return "", api.ErrBig
	case len(a) == 0:
		return "0", api.OK
	}
	switch base {
	case 2:
		return joined(a, base, 64), api.OK
	case 16:
		return joined(a, base, 16), api.OK
	}
	return joined(decimalChunks(a), base, decimalWidth), api.OK
}

// Parse reads digits of the base.
func Parse(s string, base int) (api.Nat, api.Errno) {
	switch {
	case !isBase(base):
		return nil, api.ErrBase
	case !isDigits(s, base):
		return nil, api.ErrDigits
	}
	var number api.Nat
	scale, chunk := uint64(1), uint64(0)
	for _, r := range s {
		if scale > math.MaxUint64/uint64(base) {
			number = timesLimb(number, scale, chunk)
			if tooLong(number) {
				return nil, api.ErrBig
			}
			scale, chunk = 1, 0
		}
		scale *= uint64(base)
		chunk = chunk*uint64(base) + uint64(digit(r))
	}
	return answer(timesLimb(number, scale, chunk))
}

func isBase(base int) bool {
	return base == 2 || base == 10 || base == 16
}

func isDigits(s string, base int) bool {
	for _, r := range s {
		if digit(r) >= base {
			return false
		}
	}
	return s != ""
}

// digit is what a digit counts, and for what is none more than in any base.
func digit(r rune) int {
	switch {
	case '0' <= r && r <= '9':
		return int(r - '0')
	case 'a' <= r && r <= 'f':
		return int(r-'a') + 10
	case 'A' <= r && r <= 'F':
		return int(r-'A') + 10
	}
	return math.MaxInt
}

// decimalChunks cuts the decimal digits into chunks of 19, the lowest first.
func decimalChunks(a api.Nat) []uint64 {
	var chunks []uint64
	for rest := fresh(a); len(rest) > 0; rest = trim(rest) {
		chunks = append(chunks, divideByLimb(rest, decimalChunk))
	}
	return chunks
}

// joined writes chunks, the lowest first; each but the highest has as many digits as width says.
func joined(chunks []uint64, base, width int) string {
	var out strings.Builder
	for i := len(chunks) - 1; i >= 0; i-- {
		digits := strconv.FormatUint(chunks[i], base)
		if i < len(chunks)-1 {
			out.WriteString(strings.Repeat("0", width-len(digits)))
		}
		out.WriteString(digits)
	}
	return out.String()
}
