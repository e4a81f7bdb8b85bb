package token_test

import (
	"math/big"
	"math/rand"
	"regexp"
	"slices"
	"strings"
	"testing"

	"tactician/api"
	"tactician/token"
)

// A model of chapter 8, as far from the program as it can be: it says of each string whether it is one token, and takes at
// each place the longest string that is one.

var (
	aName   = regexp.MustCompile(`^[a-z][a-z0-9_]*$`)
	aNumber = regexp.MustCompile(`^(0|[1-9][0-9]*)$`)
	aText   = regexp.MustCompile(`^'([ -&(-~]|'')*'$`)
	most    = new(big.Int).SetUint64(1<<63 - 1)
)

// smallLetters is s with small letters instead of great ones.
func smallLetters(s string) string {
	l := []byte(s)
	for i, b := range l {
		if b >= 'A' && b <= 'Z' {
			l[i] = b - 'A' + 'a'
		}
	}
	return string(l)
}

// kindOf is the kind of the token that s is, or 0.
func kindOf(s string) token.Kind {
	low := smallLetters(s)
	n, ok := new(big.Int).SetString(s, 10)
	switch {
	case slices.Contains(strings.Fields(wordList), low):
		return token.Word
	case aName.MatchString(low) && len(s) <= api.MaxName:
		return token.Name
	case aNumber.MatchString(s) && ok && n.Cmp(most) <= 0:
		return token.Number
	case aText.MatchString(s) && len(strings.ReplaceAll(s[1:len(s)-1], "''", "'")) <= api.MaxText:
		return token.Text
	case slices.Contains(strings.Fields(signList), s):
		return token.Sign
	}
	return 0
}

// model returns the tokens of s, and whether it has some.
func model(s string) ([]token.Token, bool) {
	var out []token.Token
	touched := false // whether a word, name or number ends here
	for at := 0; at < len(s); {
		if s[at] == ' ' || s[at] == '\n' {
			touched = false
			at++
			continue
		}
		end := len(s)
		for end > at && kindOf(s[at:end]) == 0 {
			end--
		}
		kind, text := kindOf(s[at:end]), s[at:end]
		if kind != token.Text {
			text = smallLetters(text)
		}
		glues := kind == token.Word || kind == token.Name || kind == token.Number
		if kind == 0 || glues && touched {
			return nil, false
		}
		out = append(out, token.Token{Kind: kind, Text: text, At: at})
		touched = glues
		at = end
	}
	return out, true
}

// asModel compares the tokens of s with the model's, and tells whether there are some.
func asModel(t *testing.T, s string) bool {
	t.Helper()
	want, ok := model(s)
	if ok {
		has(t, s, want...)
		again(t, s)
	} else {
		fails(t, s, api.ErrToken)
	}
	return ok
}

// P8.4: again tells that the tokens of s are those of their string.
func again(t *testing.T, s string) {
	t.Helper()
	l, e := token.Tokens(s)
	joined := token.Join(l)
	if e != api.OK {
		t.Errorf("%q: %v", s, e)
		return
	}
	if len(joined) > api.MaxSql {
		fails(t, joined, api.ErrLarge)
		return
	}
	back, e := token.Tokens(joined)
	same := slices.EqualFunc(l, back, func(a, b token.Token) bool { return a.Kind == b.Kind && a.Text == b.Text })
	if !same || e != api.OK {
		t.Errorf("%q: %v, but of %q: %v, %v", s, l, joined, back, e)
		return
	}
	at := 0
	for _, x := range back {
		if x.At != at {
			t.Errorf("%q: %v, not at %d", joined, x, at)
		}
		at += len(x.Text) + 1
	}
	if token.Join(back) != joined {
		t.Errorf("%q: %q", joined, token.Join(back))
	}
}

// TestAllShort has all strings of a few bytes.
func TestAllShort(t *testing.T) {
	right := 0
	var below func(s string, bytes string, n int)
	below = func(s string, bytes string, n int) {
		if asModel(t, s) {
			right++
		}
		if n > 0 && !t.Failed() {
			for i := range len(bytes) {
				below(s+bytes[i:i+1], bytes, n-1)
			}
		}
	}
	below("", "iN0 1_'<=|.!", 4)
	below("", "'a \n<>=|", 5)
	below("", "Or10_", 6)
	if right < 10000 {
		t.Errorf("only %d strings have tokens", right)
	}
}

// piece returns a part of a string, which mostly is a token.
func piece(r *rand.Rand) string {
	words, signs := token.Words(), strings.Fields(signList)
	letters := "abzABZ019_"
	switch r.Intn(12) {
	case 0, 1:
		return words[r.Intn(len(words))]
	case 2:
		return strings.ToUpper(words[r.Intn(len(words))])
	case 3, 4:
		return signs[r.Intn(len(signs))]
	case 5:
		s := string(letters[r.Intn(6)])
		for range r.Intn(5) + 19*r.Intn(2) {
			s += string(letters[r.Intn(len(letters))])
		}
		return s
	case 6:
		return big.NewInt(r.Int63n(200)).String()
	case 7:
		return new(big.Int).Add(most, big.NewInt(r.Int63n(5)-3)).String()
	case 8:
		s := ""
		for range r.Intn(6) {
			s += []string{"a", "B", "''", " ", "<", "0"}[r.Intn(6)]
		}
		return "'" + s + "'"
	case 9:
		return []string{"!", "|", "'", "_", "\t", "\x80", "00", "1a"}[r.Intn(8)]
	}
	return []string{" ", "\n", "  ", " \n "}[r.Intn(4)]
}

// TestRandom has strings of pieces, with and without something between them.
func TestRandom(t *testing.T) {
	r := rand.New(rand.NewSource(8))
	right, wrong := 0, 0
	for range 20000 {
		s := ""
		for range r.Intn(7) {
			s += piece(r)
			if r.Intn(4) > 0 {
				s += " "
			}
		}
		if asModel(t, s) {
			right++
		} else {
			wrong++
		}
		if t.Failed() {
			return
		}
	}
	if right < 2000 || wrong < 2000 {
		t.Errorf("%d strings with tokens, %d without", right, wrong)
	}
}

// P8.4

func TestAgain(t *testing.T) {
	for _, s := range []string{
		"", " \n", "select a,b from t where x.a||'it''s'<>'A'and(1)>=-0;", "''''", "' ' '  '", "a'b'c", "1'2'3", "<>=<<=>",
		many("'a'1", api.MaxSql/4), many("a ", api.MaxSql/2), many(" ", api.MaxSql), "'" + many("''", api.MaxText) + "'",
		many("(", api.MaxSql/2), many("(", api.MaxSql/2-1) + "aa", many("(", api.MaxSql/2+1), many("(", api.MaxSql), // joined: MaxSql - 1 bytes, MaxSql, one more, many more
	} {
		again(t, s)
	}
}
