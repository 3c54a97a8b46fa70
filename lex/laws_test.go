package lex_test

import (
	"slices"
	"strings"
	"testing"

	"justiciar/api"
	"justiciar/lex"
)

// shorts returns short strings of bytes whose neighbours matter.
func shorts() []string {
	return append(mixes("a1'.-\n =", 5), mixes("<>=:|-.?", 4)...)
}

func roundTrip(t *testing.T, l []api.Token) {
	t.Helper()
	s, e := lex.Text(l)
	got, f := lex.Lex(s)
	if e != api.OK || f.Code != api.OK || !lex.Same(got, l) {
		t.Fatalf("%.200v: %.200q error %d: %.200v %v", l, s, e, got, f)
	}
}

// P2.5: of tokens; each beside each other one.
func TestRoundTrip(t *testing.T) {
	all := samples()
	for _, a := range all {
		roundTrip(t, list(a))
		for _, b := range all {
			roundTrip(t, list(a, b, a))
		}
	}
	roundTrip(t, nil)
	few := slices.DeleteFunc(slices.Clone(all), func(x api.Token) bool { return len(x.Text) > 5 })
	roundTrip(t, slices.Repeat(few, 20))
	roundTrip(t, slices.Repeat(list(name("a"), num(12), str(""), sign(";")), api.MaxTokens/4))
}

// P2.5: of strings.
func TestRoundTripOfStrings(t *testing.T) {
	read := 0
	for _, s := range append(shorts(), "select a, b as c from t x, u.v as of 7 y where x.a = 1 order by b desc for update", "begin\n\tx:=x*2; -- twice\n\tput('it''s '||to_text(007)); end;") {
		if l, f := lex.Lex(s); f.Code == api.OK {
			read++
			roundTrip(t, l)
		}
	}
	if read < 1000 {
		t.Error("too few strings were read:", read)
	}
}

// P2.6
func TestBlanks(t *testing.T) {
	gaps := []string{" ", "\t", "\r", "\n", "   ", "\r\n", " --\n", "\n--\n", " -- a ' ? \x00 \xff\r--\n--\n\t", " ---\n"}
	few := list(name("a"), word("or"), num(1), str("it's"), str(""), sign("-"), sign(":="), sign(":"), sign("."), sign(".."), sign("<"))
	for _, a := range few {
		for _, b := range few {
			s, _ := lex.Text(list(a))
			u, _ := lex.Text(list(b))
			for _, gap := range gaps {
				for _, text := range []string{s + gap + u, gap + s + gap + u, s + gap + u + gap, s + gap + gap + u} {
					if l, f := lex.Lex(text); f.Code != api.OK || !lex.Same(l, list(a, b)) {
						t.Errorf("%q: %v %v", text, l, f)
					}
				}
			}
		}
	}
}

// P2.6: blanks and comments before a fault change its position alone.
func TestBlanksBeforeFaults(t *testing.T) {
	for _, s := range []string{"?", "'", "A", "|", "1099511627777", longestName() + "x", "'" + longestText() + "x'", "'a\n'"} {
		_, plain := lex.Lex("a " + s)
		for gap, where := range map[string][2]int{"   ": {1, 5}, "\n": {2, 1}, " -- ?\n\t": {2, 2}, " --\n\n--'\n": {4, 1}} {
			want := plain
			want.Line, want.Col = where[0], where[1]
			if l, f := lex.Lex("a" + gap + s); f != want || len(l) != 0 {
				t.Errorf("%q: %v %v, want %v", gap+s, l, f, want)
			}
		}
	}
}

// P2.7
func TestParts(t *testing.T) {
	check := func(a, b string) {
		l, f := lex.Lex(a)
		m, g := lex.Lex(b)
		if f.Code != api.OK || g.Code != api.OK {
			return
		}
		got, h := lex.Lex(a + "\n" + b)
		if h.Code != api.OK || !lex.Same(got, append(l, m...)) {
			t.Fatalf("%q and %q: %v %v", a, b, got, h)
		}
		for i := range m {
			x := got[len(l)+i]
			if x.Line != m[i].Line+1+strings.Count(a, "\n") || x.Col != m[i].Col {
				t.Fatalf("%q and %q: %v", a, b, x)
			}
		}
	}
	for _, a := range mixes("a1'.-=\n ", 3) {
		for _, b := range mixes("a1'.-=\n ", 2) {
			check(a, b)
			check(b, a)
		}
	}
	check("select a -- b", "from t")
	check("'it''s'", "'s'")
	check("", "")
	check(strings.Repeat("a ", api.MaxTokens/2), strings.Repeat("b ", api.MaxTokens/2))
	expectFault(t, strings.Repeat("a ", api.MaxTokens/2)+"\n"+strings.Repeat("b ", api.MaxTokens/2)+"c", api.ErrLimit, "c", 2, api.MaxTokens+1)
}

// P2.1: Lex returns for all strings, with tokens or with a fault, and never with both.
func TestLexReturns(t *testing.T) {
	for _, s := range shorts() {
		l, f := lex.Lex(s)
		if f.Code == api.OK && f != (api.Fault{}) || f.Code != api.OK && (len(l) != 0 || f.Line < 1 || f.Col < 1 || f.Name == "") {
			t.Fatalf("%q: %v %v", s, l, f)
		}
	}
}
