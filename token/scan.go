package token

import (
	"iter"
	"strings"

	"tactician/api"
	"tactician/value"
)

// none is the kind of what is no token.
const none Kind = 0

const (
	small  = "abcdefghijklmnopqrstuvwxyz"
	great  = "ABCDEFGHIJKLMNOPQRSTUVWXYZ"
	others = "0123456789_" // what a name may have behind its first letter
)

const wordList = "all and as asc between by case cross desc distinct else end except exists false from full group having in inner" +
	" intersect is join left limit not null offset on or order outer right select then true union values when where"

// signs are in the order in which they are tried: the longest first, because tokens are as long as possible.
var signs = [...]string{"<=", ">=", "<>", "||", "(", ")", ",", ".", "*", "+", "-", "/", "%", "=", "<", ">", ";"}

func words() map[string]bool {
	out := map[string]bool{}
	for _, word := range strings.Fields(wordList) {
		out[word] = true
	}
	return out
}

// tokens gives the tokens of s, one after the other. What is no token is given with the kind none, and is the last one.
func tokens(s string) iter.Seq[Token] {
	return func(yield func(Token) bool) {
		known := words()
		at := 0
	bytes:
		for at < len(s) {
			if s[at] == ' ' || s[at] == '\n' {
				at++
				continue
			}
			for _, sign := range signs {
				if strings.HasPrefix(s[at:], sign) {
					if !yield(Token{Sign, sign, at}) {
						return
					}
					at += len(sign)
					continue bytes
				}
			}
			kind, text := first(s[at:], known)
			if !yield(Token{kind, text, at}) || kind == none {
				return
			}
			at += len(text)
		}
	}
}

// first returns the token at the beginning of s, which is no sign, blank or line feed.
func first(s string, known map[string]bool) (Kind, string) {
	if s[0] == '\'' {
		text := s[:quoted(s)]
		return kindOfText(text), text
	}
	// All bytes of which words, names and numbers are made are taken together, because none of these may come directly behind
	// another one: a run of them is one token, or none.
	run := s[:len(s)-len(strings.TrimLeft(s, small+great+others))]
	run = strings.ToLower(run)
	return kindOfRun(run, known), run
}

// quoted is the number of bytes of the text at the beginning of s, with its quotes; one that does not end takes all.
func quoted(s string) int {
	for i := 1; i < len(s); i++ {
		if s[i] != '\'' {
			continue
		}
		if i+1 == len(s) || s[i+1] != '\'' {
			return i + 1
		}
		i++ // a quote in the text, written twice
	}
	return len(s)
}

func kindOfText(s string) Kind {
	if _, e := value.Parse(s); e != api.OK {
		return none
	}
	return Text
}

// kindOfRun takes letters, which are small, digits and _.
func kindOfRun(s string, known map[string]bool) Kind {
	if known[s] {
		return Word
	}
	if isNameOrWord(s) {
		return Name
	}
	if v, e := value.Parse(s); e == api.OK && v.Kind == api.Int {
		return Number
	}
	return none
}

// isNameOrWord tells whether s has the form of a name, which the words have too.
func isNameOrWord(s string) bool {
	if s == "" || len(s) > api.MaxName || strings.IndexByte(small, s[0]) < 0 {
		return false
	}
	return strings.Trim(s, small+others) == ""
}
