package lex_test

import (
	"strings"
	"testing"

	"justiciar/api"
	"justiciar/lex"
)

// P2.2
func TestWord(t *testing.T) {
	for _, s := range allWords() {
		if !lex.Word(s) {
			t.Error("no word:", s)
		}
		for _, other := range []string{s + " ", " " + s, strings.ToUpper(s), strings.ToUpper(s[:1]) + s[1:], s + "_", s + "1", s + "\x00", s + "x"} {
			if lex.Word(other) {
				t.Errorf("a word: %q", other)
			}
		}
	}
	for _, s := range []string{"", " ", "a", "others", "sum", "min", "max", "abs", "put", "nvl", "right", "event", "kind", "expr", "query", "stmt", "zero_divide", "nextval", "integer", "string", "else if", "selec", "elect", "(", ":=", "'", "1", "_", "\x00", "\xff", "ä", strings.Repeat("a", 1<<16)} {
		if lex.Word(s) {
			t.Errorf("a word: %.40q", s)
		}
	}
}

// P2.2: of all short strings of letters just those are words that the grammar has.
func TestWordsAreThese(t *testing.T) {
	words := map[string]bool{}
	for _, s := range allWords() {
		words[s] = true
	}
	for _, s := range mixes("abcdefghijklmnopqrstuvwxyz", 4) {
		if got := lex.Word(s); got != words[s] {
			t.Fatal(s, got)
		}
		if got := lex.Name(s); got != (s != "" && !words[s]) {
			t.Fatal(s, got)
		}
	}
}

// P2.2
func TestName(t *testing.T) {
	for _, s := range []string{"a", "z", "a_1", "a0", "a_", "a__9z", "others", "count_", "selects", "selec", "zero_divide", longestName(), strings.Repeat("m", api.MaxName)} {
		if !lex.Name(s) {
			t.Error("no name:", s)
		}
	}
	for _, s := range []string{"", " ", "_", "_a", "1", "1a", "A", "aB", "a b", "a ", " a", "a-b", "a.b", "a'", "'a'", "a\n", "\na", "a\x00", "ä", "aä", "a\xff", "(", longestName() + "x", strings.Repeat("m", api.MaxName+1), strings.Repeat("m", 1<<16)} {
		if lex.Name(s) {
			t.Errorf("a name: %.40q", s)
		}
	}
	for _, s := range allWords() {
		if lex.Name(s) {
			t.Error("a word is a name:", s)
		}
	}
	for c := range 256 {
		b := string([]byte{byte(c)})
		letter := 'a' <= c && c <= 'z'
		if got := lex.Name(b + "9"); got != letter {
			t.Errorf("a name that begins with %q: %v", b, got)
		}
		if got, want := lex.Name("q"+b+"q"), letter || '0' <= c && c <= '9' || c == '_'; got != want {
			t.Errorf("a name with %q: %v", b, got)
		}
	}
}
