package lexis

// kinds is a set of kinds of bytes.
type kinds int

const (
	binary kinds = 1 << iota
	decimal
	hexadecimal
	simple
)

// kindsOf are the kinds that a byte is of; a digit is one of all greater bases too.
func kindsOf(b byte) kinds {
	var k kinds
	switch {
	case b == '0', b == '1':
		k |= binary
		fallthrough
	case '2' <= b && b <= '9':
		k |= decimal
		fallthrough
	case 'a' <= b && b <= 'f', 'A' <= b && b <= 'F':
		k |= hexadecimal
	}
	if int(b) < len(simples) && simples[b] {
		k |= simple
	}
	return k
}

// simples are the bytes that may stand in symbols without bars.
var simples = [128]bool{
	'~': true, '!': true, '@': true, '$': true, '%': true, '^': true, '&': true, '*': true, '_': true,
	'-': true, '+': true, '=': true, '<': true, '>': true, '.': true, '?': true, '/': true,
	'0': true, '1': true, '2': true, '3': true, '4': true, '5': true, '6': true, '7': true, '8': true, '9': true,
	'A': true, 'B': true, 'C': true, 'D': true, 'E': true, 'F': true, 'G': true, 'H': true, 'I': true,
	'J': true, 'K': true, 'L': true, 'M': true, 'N': true, 'O': true, 'P': true, 'Q': true, 'R': true,
	'S': true, 'T': true, 'U': true, 'V': true, 'W': true, 'X': true, 'Y': true, 'Z': true,
	'a': true, 'b': true, 'c': true, 'd': true, 'e': true, 'f': true, 'g': true, 'h': true, 'i': true,
	'j': true, 'k': true, 'l': true, 'm': true, 'n': true, 'o': true, 'p': true, 'q': true, 'r': true,
	's': true, 't': true, 'u': true, 'v': true, 'w': true, 'x': true, 'y': true, 'z': true,
}

func blank(b byte) bool { return b == '\t' || b == '\n' || b == '\r' || b == ' ' }

// inText tells whether a byte may stand in a text: it is printable or a blank.
func inText(b byte) bool { return b >= 32 && b != 127 || blank(b) }

// parts tells whether a byte parts a token that nothing of its own ends from the next one.
func parts(b byte) bool {
	switch b {
	case '(', ')', ';', '"', '|':
		return true
	}
	return blank(b)
}

// start is what begins with a byte.
type start int

const (
	nothing start = iota
	parenthesis
	number
	prefix
	quote
	bar
	colon
	word
)

func startOf(b byte) start {
	k := kindsOf(b)
	switch {
	case b == '(', b == ')':
		return parenthesis
	case b == '#':
		return prefix
	case b == '"':
		return quote
	case b == '|':
		return bar
	case b == ':':
		return colon
	case k&decimal != 0:
		return number
	case k&simple != 0:
		return word
	}
	return nothing
}
