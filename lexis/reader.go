package lexis

import (
	"strings"

	"tribunal/api"
)

// reader reads tokens from the left.
type reader struct {
	text  string
	at    int // how far it is
	line  int
	first int // where the line begins
}

// readers read a token each, by what begins it. One that finds a fault may stop anywhere.
func readers() [word + 1]func(*reader) (api.Token, api.Errno) {
	return [...]func(*reader) (api.Token, api.Errno){
		nothing:     (*reader).nothing,
		parenthesis: (*reader).parenthesis,
		number:      (*reader).number,
		prefix:      (*reader).prefixed,
		quote:       (*reader).quoted,
		bar:         (*reader).barred,
		colon:       (*reader).keyword,
		word:        (*reader).word,
	}
}

// skip goes past blanks and comments; it tells whether something is left.
func (r *reader) skip() bool {
	for r.at < len(r.text) {
		switch r.text[r.at] {
		case ';':
			r.comment()
		case '\n':
			r.newLine()
			fallthrough
		case '\t', '\r', ' ':
			r.at++
		default:
			return true
		}
	}
	return false
}

func (r *reader) comment() {
	for r.at < len(r.text) && r.text[r.at] != '\n' {
		r.at++
	}
}

// newLine is called at the byte that ends the line.
func (r *reader) newLine() {
	r.line++
	r.first = r.at + 1
}

// column is where the reader is in its line.
func (r *reader) column() int { return r.at - r.first + 1 }

// over goes past the bytes of a kind, and tells how many they were.
func (r *reader) over(k kinds) int {
	from := r.at
	for r.at < len(r.text) && kindsOf(r.text[r.at])&k != 0 {
		r.at++
	}
	return r.at - from
}

// past goes past that byte, if it stands here, and tells whether it did.
func (r *reader) past(b byte) bool {
	if r.at == len(r.text) || r.text[r.at] != b {
		return false
	}
	r.at++
	return true
}

// through goes past the next byte that is the end, where all up to it may stand in a text; it tells whether there is one.
func (r *reader) through(end byte) bool {
	for ; r.at < len(r.text); r.at++ {
		switch b := r.text[r.at]; {
		case b == end:
			r.at++
			return true
		case b == '\n':
			r.newLine()
		case !inText(b):
			return false
		}
	}
	return false
}

// ended is a token that nothing of its own ends, so that it has to be parted from what is behind it.
func (r *reader) ended(kind api.TokenKind, text string) (api.Token, api.Errno) {
	if r.at < len(r.text) && !parts(r.text[r.at]) {
		return api.Token{}, api.ErrNumeral
	}
	return api.Token{Kind: kind, Text: text}, api.OK
}

func (r *reader) nothing() (api.Token, api.Errno) { return api.Token{}, api.ErrByte }

func (r *reader) parenthesis() (api.Token, api.Errno) {
	if r.past('(') {
		return api.Token{Kind: api.TOpen, Text: "("}, api.OK
	}
	r.at++
	return api.Token{Kind: api.TClose, Text: ")"}, api.OK
}

// number reads a numeral or a decimal.
func (r *reader) number() (api.Token, api.Errno) {
	from := r.at
	if !r.past('0') {
		r.over(decimal)
	}
	kind := api.TNumeral
	if r.past('.') {
		kind = api.TDecimal
		if r.over(decimal) == 0 {
			return api.Token{}, api.ErrNumeral
		}
	}
	return r.ended(kind, r.text[from:r.at])
}

// prefixed reads a hexadecimal or a binary.
func (r *reader) prefixed() (api.Token, api.Errno) {
	r.at++
	var kind api.TokenKind
	var digits kinds
	switch {
	case r.past('x'):
		kind, digits = api.THex, hexadecimal
	case r.past('b'):
		kind, digits = api.TBinary, binary
	}
	from := r.at
	if r.over(digits) == 0 {
		return api.Token{}, api.ErrNumeral
	}
	return r.ended(kind, strings.ToLower(r.text[from:r.at]))
}

// quoted reads a text.
func (r *reader) quoted() (api.Token, api.Errno) {
	r.at++
	from := r.at
	for more := true; more; more = r.past('"') {
		if !r.through('"') {
			return api.Token{}, api.ErrOpen
		}
	}
	return api.Token{Kind: api.TString, Text: strings.ReplaceAll(r.text[from:r.at-1], `""`, `"`)}, api.OK
}

// barred reads a symbol with bars.
func (r *reader) barred() (api.Token, api.Errno) {
	r.at++
	from := r.at
	if !r.through('|') {
		return api.Token{}, api.ErrOpen
	}
	text := r.text[from : r.at-1]
	if strings.Contains(text, `\`) {
		return api.Token{}, api.ErrOpen
	}
	return api.Token{Kind: api.TSymbol, Text: text, Quoted: true}, api.OK
}

func (r *reader) keyword() (api.Token, api.Errno) {
	r.at++
	from := r.at
	if r.over(simple) == 0 {
		return api.Token{}, api.ErrNumeral
	}
	return r.ended(api.TKeyword, r.text[from:r.at])
}

// word reads a symbol without bars.
func (r *reader) word() (api.Token, api.Errno) {
	from := r.at
	r.over(simple)
	return r.ended(api.TSymbol, r.text[from:r.at])
}
