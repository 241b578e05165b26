package sort_test

import (
	"strings"
	"testing"

	"tribunal/api"
	"tribunal/sort"
)

// reservedWords are the chapter's.
const reservedWords = "! _ as BINARY DECIMAL exists forall HEXADECIMAL let match NUMERAL par STRING " +
	"assert check-sat check-sat-assuming declare-const declare-datatype declare-datatypes declare-fun declare-sort define-fun define-sort echo exit " +
	"get-assertions get-info get-model get-value pop push reset reset-assertions set-info set-logic set-option"

const signs = "~!@$%^&*_-+=<>.?/"

// P4.1: each byte, ahead, in the middle and at the end.
func TestBytesOfNames(t *testing.T) {
	for b := range 256 {
		s := string([]byte{byte(b)})
		inside := b >= 0x20 && b <= 0x7e && b != '|' && b != '\\'
		ahead := inside && b != '@' && b != '.'
		for text, want := range map[string]bool{s: ahead, s + "a": ahead, "a" + s: inside, "a" + s + "b": inside, letters(199) + s: inside, s + letters(199): ahead} {
			if sort.Name(text) != want {
				t.Errorf("Name(%q): %v", text, !want)
			}
		}
	}
}

// P4.1: how long names are.
func TestLengthsOfNames(t *testing.T) {
	for n, want := range map[int]bool{0: false, 1: true, 2: true, 199: true, 200: true, 201: false, 202: false, 256: false, 1000: false, 65537: false} {
		if s := letters(n); sort.Name(s) != want {
			t.Errorf("Name of %d letters: %v", n, !want)
		}
	}
	for _, s := range strings.Fields(reservedWords) {
		if !sort.Name(s) {
			t.Errorf("%s is a name", s)
		}
	}
	for _, s := range []string{"é", "aé", "a\x00b", "tab\t", "line\n", "\xff", "a|b", "|a|", "a\\", "@a", ".a", "@", "."} {
		if sort.Name(s) {
			t.Errorf("%q is no name", s)
		}
	}
}

func plain(t *testing.T, s string) {
	t.Helper()
	if got := sort.Quote(s); got != s {
		t.Errorf("Quote(%q): %q", s, got)
	}
}

func barred(t *testing.T, s string) {
	t.Helper()
	if got := sort.Quote(s); got != "|"+s+"|" {
		t.Errorf("Quote(%q): %q", s, got)
	}
}

// P4.1: which names are simple, byte by byte.
func TestBytesOfSimpleNames(t *testing.T) {
	for b := range 256 {
		s := string([]byte{byte(b)})
		digit := b >= '0' && b <= '9'
		inside := digit || b >= 'a' && b <= 'z' || b >= 'A' && b <= 'Z' || strings.Contains(signs, s)
		ahead := inside && !digit && b != '@' && b != '.'
		for text, want := range map[string]bool{s + "q": ahead, "q" + s: inside, "a" + s + "b": inside, letters(199) + s: inside, s + letters(199): ahead, s: ahead && b != '!' && b != '_'} {
			if want {
				plain(t, text)
			} else {
				barred(t, text)
			}
		}
	}
}

// P4.1: names that are quoted for another reason, and texts that are no names.
func TestQuote(t *testing.T) {
	words := strings.Fields(reservedWords)
	if len(words) != 36 {
		t.Errorf("%d reserved words", len(words))
	}
	for _, s := range words {
		barred(t, s)
		plain(t, s+"x")
		plain(t, "x"+s)
		plain(t, s+"!")
	}
	for _, s := range []string{"a", "Bool", "Int", "Array", "BitVec", "true", "not", "let*", "LET", "As", "binary", "!!", "__", "-", "-1", "+", "<=", "/", "~a", "a@", "a.b", "a0", "check-sat-", "get", "set", "define-fun-rec", "reset-", letters(200)} {
		plain(t, s)
	}
	for _, s := range []string{"", " ", "a b", "0", "0a", "9", "@a", ".a", "a|b", "|", "||", "a\\b", "é", "a\n", "a\"", "(", ")", "a;b", "a,b", "a:b", ":a", "#b", "a'", "`", "{", "[", letters(201), letters(5000)} {
		barred(t, s)
	}
}

// A quoted name that stands as a sort is written as Quote has it (P4.1, P4.2).
func TestQuotedSorts(t *testing.T) {
	for _, s := range []string{"U", "my sort", "let", "0", "Bool", "a:b", letters(200)} {
		isText(t, user(s), sort.Quote(s))
		isText(t, array(data(s), user(s)), "(Array "+sort.Quote(s)+" "+sort.Quote(s)+")")
	}
	for _, s := range []string{"", "@a", ".", "a|b", "a\\b", "é", letters(201)} {
		noText(t, "a user sort", user(s), api.ErrSort)
		noText(t, "a datatype", data(s), api.ErrSort)
	}
}
