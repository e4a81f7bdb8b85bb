package token_test

import (
	"slices"
	"strings"
	"testing"

	"tactician/api"
	"tactician/base"
	"tactician/token"
)

// wordList are the words, as the document has them.
const wordList = "all and as asc between by case cross desc distinct else end except exists false from full group having in inner intersect is join left limit not null offset on or order outer right select then true union values when where"

// signList are the signs, as the document has them.
const signList = "( ) , . * + - / % = < > <= >= <> || ;"

func word(s string, at int) token.Token   { return token.Token{Kind: token.Word, Text: s, At: at} }
func name(s string, at int) token.Token   { return token.Token{Kind: token.Name, Text: s, At: at} }
func number(s string, at int) token.Token { return token.Token{Kind: token.Number, Text: s, At: at} }
func text(s string, at int) token.Token   { return token.Token{Kind: token.Text, Text: s, At: at} }
func sign(s string, at int) token.Token   { return token.Token{Kind: token.Sign, Text: s, At: at} }

// many is s as often as is said.
func many(s string, n int) string { return strings.Repeat(s, n) }

// has tells that the tokens of s are want, and no error.
func has(t *testing.T, s string, want ...token.Token) {
	t.Helper()
	if got, e := token.Tokens(s); !slices.Equal(got, want) || e != api.OK {
		t.Errorf("%q: %v, %v, not %v", s, got, e, want)
	}
}

// fails tells that s has the error want, and no tokens with it.
func fails(t *testing.T, s string, want api.Errno) {
	t.Helper()
	if got, e := token.Tokens(s); len(got) != 0 || e != want {
		t.Errorf("%.60q: %v, %v, not %v", s, got, e, want)
	}
}

// P8.1

func TestNoTokens(t *testing.T) {
	for _, s := range []string{"", " ", "\n", " \n\n  \n", many(" ", api.MaxSql), many("\n", api.MaxSql)} {
		has(t, s)
	}
}

func TestExamples(t *testing.T) {
	has(t, "Select a<=10", word("select", 0), name("a", 7), sign("<=", 8), number("10", 10))
	has(t, "'a''b'", text("'a''b'", 0))
	fails(t, "1a", api.ErrToken)
	fails(t, "01", api.ErrToken)
}

func TestTokensOfAQuery(t *testing.T) {
	has(t, "SELECT *, -sum(b)\n from T_1  x\nwhere x.a||'It''s'<>'';",
		word("select", 0), sign("*", 7), sign(",", 8), sign("-", 10), name("sum", 11), sign("(", 14), name("b", 15), sign(")", 16),
		word("from", 19), name("t_1", 24), name("x", 29),
		word("where", 31), name("x", 37), sign(".", 38), name("a", 39), sign("||", 40), text("'It''s'", 42), sign("<>", 49),
		text("''", 51), sign(";", 53))
}

func TestWordsAsTokens(t *testing.T) {
	for _, w := range strings.Fields(wordList) {
		has(t, w, word(w, 0))
		has(t, "\n"+strings.ToUpper(w)+" ", word(w, 1))
		has(t, strings.ToUpper(w[:1])+w[1:]+","+w, word(w, 0), sign(",", len(w)), word(w, len(w)+1))
		has(t, w+"_", name(w+"_", 0))
		has(t, w+"1", name(w+"1", 0))
		has(t, w+"X", name(w+"x", 0))
		has(t, w+w, name(w+w, 0))
		has(t, "'"+w+"'", text("'"+w+"'", 0))
		fails(t, "1"+w, api.ErrToken)
		fails(t, "_"+w, api.ErrToken)
	}
}

func TestNames(t *testing.T) {
	long := "a" + many("_9Z", 6) + "b"
	for _, s := range []string{"a", "z", "A", "Z", "a_", "a0", "a9", "a1b2", "a__1", "ABC", "aBc_D", "nil", "count", "selects", "selec", "e1", "x0", long} {
		has(t, s, name(strings.ToLower(s), 0))
		has(t, "("+s+")", sign("(", 0), name(strings.ToLower(s), 1), sign(")", len(s)+1))
		has(t, s+" "+s, name(strings.ToLower(s), 0), name(strings.ToLower(s), len(s)+1))
	}
	if len(long) != api.MaxName {
		t.Fatalf("%d bytes", len(long))
	}
	for _, s := range []string{long + "c", long + "_", long + "0", long + "C", many("a", 2*api.MaxName), many("select", 4), many("a", api.MaxSql)} {
		fails(t, s, api.ErrToken)
	}
	for _, s := range []string{"_", "_a", "__", "a _", "1_", "1_0", "_1", "$a", "a$", "a#", "a@b", "\"a\"", "`a`", "[a]", "a:b", "a\\"} {
		fails(t, s, api.ErrToken)
	}
}

func TestNumbers(t *testing.T) {
	for _, s := range []string{"0", "1", "9", "10", "100", "1234567890", "999999999999999999", "1000000000000000000", "9223372036854775799", "9223372036854775807"} {
		has(t, s, number(s, 0))
		has(t, " -"+s+"\n", sign("-", 1), number(s, 2))
		has(t, s+"."+s, number(s, 0), sign(".", len(s)), number(s, len(s)+1))
		has(t, s+" "+s, number(s, 0), number(s, len(s)+1))
		has(t, "+"+s, sign("+", 0), number(s, 1))
	}
	for _, s := range []string{
		"00", "01", "007", "000", "0 00", "-01", "9223372036854775808", "9223372036854775810", "9999999999999999999", "10000000000000000000",
		"18446744073709551616", "18446744073709551617", "09223372036854775807", many("1", api.MaxSql), many("0", api.MaxSql),
		"1a", "0a", "0x1", "1e5", "1E5", "1select", "1A", "0b1", "12and", "0_", "1_000",
	} {
		fails(t, s, api.ErrToken)
	}
}

func TestTexts(t *testing.T) {
	for _, s := range []string{
		"''", "' '", "'a'", "'A'", "''''", "''''''", "'''a'", "'a'''", "'a''b'", "'It''s A ''Test'''", "'select'", "'1a'", "'01'", "'\"'", "'--'", "'!#$&:?@[]^_`{}\\~'", "'<=;'",
		"'" + many("a", api.MaxText) + "'", "'" + many("''", api.MaxText) + "'", "'" + many("a''", api.MaxText/2) + "'",
	} {
		has(t, s, text(s, 0))
		has(t, s+" "+s, text(s, 0), text(s, len(s)+1))
		has(t, "a"+s+"b", name("a", 0), text(s, 1), name("b", len(s)+1))
		has(t, "1"+s+"1", number("1", 0), text(s, 1), number("1", len(s)+1))
		has(t, "in"+s+"IN", word("in", 0), text(s, 2), word("in", len(s)+2))
		has(t, "("+s+")", sign("(", 0), text(s, 1), sign(")", len(s)+1))
	}
	for _, s := range []string{
		"'", "'''", "'''''", "'a", "a'", "'a''", "''a'", "'a'b'", "'a''b", "'a' '", "\"a\"", "'a\n'", "'\n", "'\x00'", "'\t'", "'\x1f'", "'\x7f'", "'\x80'", "'\xff'", "'ä'",
		"'" + many("a", api.MaxText+1) + "'", "'" + many("''", api.MaxText+1) + "'", "'" + many("a", api.MaxSql-2) + "'", many("'", api.MaxSql),
		// One text that is too long, and not two of which one comes directly behind the other.
		"'" + many("a", api.MaxText) + "''b'",
	} {
		fails(t, s, api.ErrToken)
	}
	for b := range 256 {
		s := "'" + string([]byte{byte(b)}) + "'"
		if b < 32 || b > 126 || b == '\'' {
			fails(t, s, api.ErrToken)
		} else {
			has(t, s, text(s, 0))
		}
	}
}

func TestSigns(t *testing.T) {
	all := strings.Fields(signList)
	for _, s := range all {
		has(t, s, sign(s, 0))
		has(t, "a"+s+"1", name("a", 0), sign(s, 1), number("1", len(s)+1))
		has(t, "1"+s+"a", number("1", 0), sign(s, 1), name("a", len(s)+1))
		has(t, "''"+s+"''", text("''", 0), sign(s, 2), text("''", len(s)+2))
		for _, x := range all {
			has(t, s+" "+x, sign(s, 0), sign(x, len(s)+1))
			if !slices.Contains(all, s+x[:1]) {
				has(t, s+x, sign(s, 0), sign(x, len(s)))
			}
		}
	}
	has(t, "<=>", sign("<=", 0), sign(">", 2))
	has(t, "<>=", sign("<>", 0), sign("=", 2))
	has(t, "<<=", sign("<", 0), sign("<=", 1))
	has(t, ">>=", sign(">", 0), sign(">=", 1))
	has(t, "><", sign(">", 0), sign("<", 1))
	has(t, "=<", sign("=", 0), sign("<", 1))
	has(t, "< =", sign("<", 0), sign("=", 2))
	has(t, "||||", sign("||", 0), sign("||", 2))
	has(t, "--", sign("-", 0), sign("-", 1))
	has(t, "/*", sign("/", 0), sign("*", 1))
	for _, s := range []string{"|", "a|b", "|||", "| |", "!", "!=", "a!", "==!", "&", "^", "~", "?", ":", "::", "[", "]", "{", "}", "#", "$", "@", "\\", "\"", "`"} {
		fails(t, s, api.ErrToken)
	}
}

// TestBytes has each byte alone, and among tokens.
func TestBytes(t *testing.T) {
	for b := range 256 {
		s := string([]byte{byte(b)})
		switch {
		case b == ' ' || b == '\n':
			has(t, s)
			has(t, "a"+s+"1", name("a", 0), number("1", 2))
		case b >= 'A' && b <= 'Z' || b >= 'a' && b <= 'z':
			has(t, s, name(strings.ToLower(s), 0))
			has(t, "q"+s+" 1", name("q"+strings.ToLower(s), 0), number("1", 3))
		case b >= '0' && b <= '9':
			has(t, s, number(s, 0))
			has(t, "a"+s+" 1", name("a"+s, 0), number("1", 3))
		case b == '_':
			fails(t, s, api.ErrToken)
			has(t, "a"+s+" 1", name("a"+s, 0), number("1", 3))
		case slices.Contains(strings.Fields(signList), s):
			has(t, s, sign(s, 0))
			has(t, "a"+s+" 1", name("a", 0), sign(s, 1), number("1", 3))
		default:
			fails(t, s, api.ErrToken)
			fails(t, "a"+s+" 1", api.ErrToken)
			fails(t, "a"+s, api.ErrToken)
			fails(t, s+"a", api.ErrToken)
		}
	}
}

// TestOtherLetters has letters that are no bytes, also such whose small or great letter is one.
func TestOtherLetters(t *testing.T) {
	for _, s := range []string{"ä", "Ä", "\u212a", "\u017f", "\u0130", "\u0131", "a\u0301", "\u00a0", "\u2028", "\ufeffa", "\u0661", "i\u017f", "li\u212ae"} {
		fails(t, s, api.ErrToken)
		fails(t, "a "+s+" b", api.ErrToken)
	}
}

func TestLarge(t *testing.T) {
	for _, s := range []string{" ", "a", "1", "'", "!", "\x00", "ä", "("} {
		for _, n := range []int{api.MaxSql + 1, 2 * api.MaxSql, 1 << 20} {
			fails(t, many(s, n), api.ErrLarge) // also where ErrToken applies: ErrLarge is named first
		}
	}
	want := make([]token.Token, api.MaxSql)
	for i := range want {
		want[i] = sign("(", i)
	}
	has(t, many("(", api.MaxSql), want...)
	fails(t, many("(", api.MaxSql-1)+"!", api.ErrToken)
	has(t, many(" ", api.MaxSql-1)+"a", name("a", api.MaxSql-1))
	fails(t, many(" ", api.MaxSql)+"a", api.ErrLarge)
}

// R3 and R4: with an error there are no tokens of what was right before it, and each call has memory of its own.
func TestResults(t *testing.T) {
	fails(t, "select a from t where 'b", api.ErrToken)
	a, _ := token.Tokens("a , b")
	b, _ := token.Tokens("a , b")
	clear(a[:cap(a)])
	if want := []token.Token{name("a", 0), sign(",", 2), name("b", 4)}; !slices.Equal(b, want) {
		t.Errorf("the results share memory: %v", b)
	}
	l := token.Words()
	clear(l[:cap(l)])
	if !slices.Equal(token.Words(), strings.Fields(wordList)) || !token.IsWord("all") {
		t.Errorf("Words gives out what it keeps: %v", token.Words())
	}
}

// P8.2

func TestWords(t *testing.T) {
	want := strings.Fields(wordList)
	if got := token.Words(); !slices.Equal(got, want) || !slices.IsSorted(got) {
		t.Errorf("%v, not %v", got, want)
	}
	for _, w := range want {
		if token.IsName(w) || !token.IsWord(w) {
			t.Errorf("%s: %v, %v", w, token.IsName(w), token.IsWord(w))
		}
		for _, s := range []string{strings.ToUpper(w), strings.ToUpper(w[:1]) + w[1:], w[:len(w)-1] + strings.ToUpper(w[len(w)-1:]), w + " ", " " + w, "'" + w + "'", w + "\n"} {
			if token.IsName(s) || token.IsWord(s) {
				t.Errorf("%q: %v, %v", s, token.IsName(s), token.IsWord(s))
			}
		}
		for _, s := range []string{w + "_", w + "0", w + "z", "z" + w} {
			if !token.IsName(s) || token.IsWord(s) {
				t.Errorf("%q: %v, %v", s, token.IsName(s), token.IsWord(s))
			}
		}
	}
	for _, s := range []string{"all and", "and as", "", " ", "al", "a", wordList} {
		if token.IsWord(s) {
			t.Errorf("%q is a word", s)
		}
	}
}

func TestIsName(t *testing.T) {
	for _, s := range []string{"a", "z", "a_", "a0", "a9z", "t_1", "count", "sum", "nil", "e", "a__", many("a", api.MaxName), "z" + many("9", api.MaxName-1)} {
		if !token.IsName(s) {
			t.Errorf("%q is no name", s)
		}
	}
	for _, s := range []string{
		"", " ", "A", "aB", "Ab", "1", "0a", "_", "_a", " a", "a ", "a b", "a\n", "a.b", "a-b", "'a'", "a'", "\x00", "a\x00", "a\xff", "ä", "aä", "\u212a", "a\u017f",
		many("a", api.MaxName+1), many("_", api.MaxName), many("a", 1<<20), "a|b", "null", "true",
	} {
		if token.IsName(s) {
			t.Errorf("%.30q is a name", s)
		}
	}
	for b := range 256 {
		first := b >= 'a' && b <= 'z'
		inside := first || b >= '0' && b <= '9' || b == '_'
		s := string([]byte{byte(b)})
		if token.IsName(s) != first || token.IsName("q"+s+"q") != inside || token.IsName("q"+s) != inside || token.IsWord(s) {
			t.Errorf("%q: %v, %v, %v, %v", s, token.IsName(s), token.IsName("q"+s+"q"), token.IsName("q"+s), token.IsWord(s))
		}
	}
}

// TestNamesOfBases: the names of tables are those of queries.
func TestNamesOfBases(t *testing.T) {
	l := append(token.Words(), "a", "t_1", "count", "alls", "A", "", "_", "1a", "a b", many("a", api.MaxName), many("a", api.MaxName+1))
	for _, s := range l {
		b := api.Base{Tables: []api.Table{{Name: s, Cols: []api.Column{{Name: "c", Kind: api.Int}}}}}
		if is := base.Check(b) == api.OK; is != token.IsName(s) {
			t.Errorf("%q: %v, but as the name of a table: %v", s, token.IsName(s), is)
		}
	}
}

// P8.3

func TestJoin(t *testing.T) {
	for _, c := range []struct {
		l    []token.Token
		want string
	}{
		{nil, ""},
		{[]token.Token{}, ""},
		{[]token.Token{{}}, ""},
		{[]token.Token{{}, {}}, " "},
		{[]token.Token{{}, {}, {}}, "  "},
		{[]token.Token{name("a", 0)}, "a"},
		{[]token.Token{word("select", 9), sign("*", -1), word("from", 3), name("t", 3)}, "select * from t"},
		{[]token.Token{name("x", 0), sign(".", 0), name("a", 0), sign("||", 0), text("'x''y'", 0), sign(";", 0)}, "x . a || 'x''y' ;"},
		{[]token.Token{{Kind: 77, Text: "no token"}, {Kind: -1, Text: " "}, {Text: "Ä\n\x00\xff"}, {Kind: token.Number, Text: "007", At: 5}}, "no token   Ä\n\x00\xff 007"},
		{slices.Repeat([]token.Token{name("ab", 0)}, api.MaxSql), strings.TrimSuffix(many("ab ", api.MaxSql), " ")},
	} {
		before := slices.Clone(c.l)
		if got := token.Join(c.l); got != c.want {
			t.Errorf("%.200v: %.60q, not %.60q", c.l, got, c.want)
		}
		if !slices.Equal(c.l, before) {
			t.Errorf("%.200v has been changed to %.200v", before, c.l)
		}
	}
	l := []token.Token{name("a", 0), name("b", 0), name("c", 0)}
	if got := token.Join(l[:2]); got != "a b" {
		t.Errorf("what lies beyond: %q", got)
	}
}

// TestReadme has what README.md shows.
func TestReadme(t *testing.T) {
	l, e := token.Tokens("Select a<=10")
	if want := []token.Token{word("select", 0), name("a", 7), sign("<=", 8), number("10", 10)}; !slices.Equal(l, want) || e != api.OK {
		t.Errorf("Tokens: %v, %v", l, e)
	}
	if s := token.Join(l); s != "select a <= 10" {
		t.Errorf("Join: %q", s)
	}
	if token.IsName("select") || !token.IsName("t_1") || !token.IsWord("select") {
		t.Error("IsName or IsWord")
	}
	if w := token.Words(); w[0] != "all" || w[len(w)-1] != "where" {
		t.Errorf("Words: %v", w)
	}
}
