package sort

import (
	"strings"

	"tribunal/api"
)

// Name tells whether a text may be one.
func Name(s string) bool {
	if len(s) < 1 || len(s) > api.MaxName || s[0] == '@' || s[0] == '.' {
		return false
	}
	for i := range len(s) {
		if s[i] < 0x20 || s[i] > 0x7e || s[i] == '|' || s[i] == '\\' {
			return false
		}
	}
	return true
}

// Quote: as it is written.
func Quote(s string) string {
	if simple(s) {
		return s
	}
	return "|" + s + "|"
}

// simple tells whether a text is a name that stands without bars.
func simple(s string) bool {
	if !Name(s) || digit(s[0]) || reserved(s) {
		return false
	}
	for i := range len(s) {
		if !letter(s[i]) && !digit(s[i]) && strings.IndexByte("~!@$%^&*_-+=<>.?/", s[i]) < 0 {
			return false
		}
	}
	return true
}

func letter(b byte) bool { return 'a' <= b && b <= 'z' || 'A' <= b && b <= 'Z' }

func digit(b byte) bool { return '0' <= b && b <= '9' }

func reserved(s string) bool {
	switch s {
	case "!", "_", "as", "BINARY", "DECIMAL", "exists", "forall", "HEXADECIMAL", "let", "match", "NUMERAL", "par", "STRING",
		"assert", "check-sat", "check-sat-assuming", "declare-const", "declare-datatype", "declare-datatypes", "declare-fun", "declare-sort",
		"define-fun", "define-sort", "echo", "exit", "get-assertions", "get-info", "get-model", "get-value", "pop", "push",
		"reset", "reset-assertions", "set-info", "set-logic", "set-option":
		return true
	}
	return false
}
