package lex_test

import (
	"slices"
	"strings"
	"testing"

	"justiciar/api"
	"justiciar/lex"
)

func name(s string) api.Token { return api.Token{Kind: api.TokName, Text: s} }

func word(s string) api.Token { return api.Token{Kind: api.TokWord, Text: s} }

func num(n int) api.Token { return api.Token{Kind: api.TokInt, N: n} }

func str(s string) api.Token { return api.Token{Kind: api.TokText, Text: s} }

func sign(s string) api.Token { return api.Token{Kind: api.TokSign, Text: s} }

func list(l ...api.Token) []api.Token { return l }

// at puts a token at a position.
func at(line, col int, t api.Token) api.Token {
	t.Line, t.Col = line, col
	return t
}

func signs() []string {
	return strings.Fields(":= <> <= >= || .. ( ) , ; . : = < > + - * / %")
}

// allWords returns the quoted names of the document's grammar.
func allWords() []string {
	return strings.Fields(`add after all alter and array as autonomous before begin between bool bulk by
		cache case check close collect commit constraint count create cursor declare default deferred delete desc distinct drop
		each else elsif end exception execute exists exit false fetch for forall foreign found from function grant group having
		if in index insert int into invoker is isopen key like limit loop mod new not notfound null of old on open or order out
		package primary private procedure raise references replace return reverse revoke rollback row rowcount
		savepoint select sequence set sql start table text then to trigger true unique update user values view when where while`)
}

func longestName() string { return "x" + strings.Repeat("_9", (api.MaxName-1)/2) + "z" }

func longestText() string { return strings.Repeat("x", api.MaxText) }

// printable returns all bytes that a string may have.
func printable() string {
	var b strings.Builder
	for c := byte(32); c <= 126; c++ {
		b.WriteByte(c)
	}
	return b.String()
}

// samples returns tokens of all kinds: all words and signs, and others at the limits.
func samples() []api.Token {
	l := list(name("a"), name("z9_"), name("a__"), name("others"), name("selec"), name("selects"), name("i"), name(longestName()),
		num(0), num(7), num(10), num(api.MaxInt-1), num(api.MaxInt),
		str(""), str("'"), str("''"), str("'a'"), str("it's"), str("--"), str("select"), str("a b"), str(printable()), str(longestText()), str(strings.Repeat("'", api.MaxText)))
	for _, s := range allWords() {
		l = append(l, word(s))
	}
	for _, s := range signs() {
		l = append(l, sign(s))
	}
	return l
}

// mixes returns all strings of at most n bytes of an alphabet.
func mixes(alphabet string, n int) []string {
	all, last := []string{""}, []string{""}
	for range n {
		var next []string
		for _, s := range last {
			for i := range len(alphabet) {
				next = append(next, s+alphabet[i:i+1])
			}
		}
		all, last = append(all, next...), next
	}
	return all
}

// expect compares what Lex makes of a string with what it has to be, positions too.
func expect(t *testing.T, s string, want ...api.Token) {
	t.Helper()
	got, f := lex.Lex(s)
	if f != (api.Fault{}) || !slices.Equal(got, want) {
		t.Errorf("%.200q: %v %v, want %v", s, got, f, want)
	}
}

// expectFault does so with a fault, beside which there are no tokens.
func expectFault(t *testing.T, s string, code api.Errno, name string, line, col int) {
	t.Helper()
	got, f := lex.Lex(s)
	if want := (api.Fault{Code: code, Name: name, Line: line, Col: col}); f != want || len(got) != 0 {
		t.Errorf("%.200q: %v %v, want %v", s, got, f, want)
	}
}
