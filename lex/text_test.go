package lex_test

import (
	"slices"
	"strings"
	"testing"

	"justiciar/api"
	"justiciar/lex"
)

func expectText(t *testing.T, l []api.Token, want string, wantE api.Errno) {
	t.Helper()
	if got, e := lex.Text(l); got != want || e != wantE {
		t.Errorf("%.200v: %.200q error %d, want %.200q error %d", l, got, e, want, wantE)
	}
}

// P2.3
func TestText(t *testing.T) {
	expectText(t, nil, "", api.OK)
	expectText(t, list(), "", api.OK)
	expectText(t, list(name("a")), "a", api.OK)
	expectText(t, list(word("select"), name("a"), sign("<="), num(12), sign("||"), str("it's"), sign(";")), "select a <= 12 || 'it''s' ;", api.OK)
	expectText(t, list(sign("-"), sign("-"), num(0), str(""), str("'"), str(" ")), "- - 0 '' '''' ' '", api.OK)
	expectText(t, list(at(3, 9, name("a")), at(-1, 0, num(api.MaxInt)), at(1<<62, -1<<63, str("--"))), "a 1099511627776 '--'", api.OK)
	expectText(t, list(name(longestName()), str(longestText())), longestName()+" '"+longestText()+"'", api.OK)
	for _, x := range samples() {
		want := x.Text
		switch x.Kind {
		case api.TokInt:
			continue
		case api.TokText:
			want = "'" + strings.ReplaceAll(x.Text, "'", "''") + "'"
		}
		expectText(t, list(x), want, api.OK)
		expectText(t, list(x, at(7, 7, x)), want+" "+want, api.OK)
	}
}

// noTokens returns what is no token, by what is wrong with it.
func noTokens() map[string]api.Token {
	l := map[string]api.Token{
		"nothing": {}, "kind 0": {Text: "a"}, "kind 6": {Kind: 6, Text: "a"}, "kind -1": {Kind: -1, Text: "a"},
		"an empty name": name(""), "a word as a name": name("select"), "a name as a word": word("a"), "an empty word": word(""), "a word of others": word("others"), "a word with a blank": word("select "), "a name with a blank": name("a "), "a name of two": name("a b"), "a name with a great letter": name("aB"), "a name of digits": name("1"), "a name too long": name(longestName() + "x"), "a sign as a name": name("("), "a string as a name": name("'a'"),
		"an empty sign": sign(""), "a sign with a blank": sign("= "), "two signs": sign("( )"), "three points": sign("..."), "a bar": sign("|"), "a comment": sign("--"), "a blank": sign(" "), "a ?": sign("?"), "a quote": sign("'"), "a name as a sign": sign("a"), "a long sign": sign("<=>"),
		"an integer below 0": num(-1), "an integer above MaxInt": num(api.MaxInt + 1), "the least int": num(-1 << 63), "the greatest int": num(1<<63 - 1), "an integer with a string": {Kind: api.TokInt, N: 1, Text: "1"},
		"a string too long": str(longestText() + "x"), "quotes too many": str(strings.Repeat("'", api.MaxText+1)), "a string with byte 10": str("a\nb"), "a string with byte 31": str("\x1f"), "a string with byte 127": str("\x7f"), "a string with byte 255": str("\xff"), "a string with ä": str("ä"),
	}
	for _, x := range list(name("a"), word("select"), str("b"), sign("=")) {
		x.N = 1
		l["N beside "+x.Text] = x
		x.N = -1
		l["N below 0 beside "+x.Text] = x
	}
	return l
}

// P2.3
func TestTextErrors(t *testing.T) {
	long := slices.Repeat(list(str(longestText())), api.MaxSource/api.MaxText)
	for what, x := range noTokens() {
		for _, l := range [][]api.Token{{x}, {name("a"), x}, {x, name("a")}, {x, x}, append(slices.Clone(long), x), append(list(x), long...)} {
			if got, e := lex.Text(l); got != "" || e != api.ErrArg {
				t.Errorf("%s: %.100q error %d", what, got, e)
			}
		}
	}
}

// P2.3: as long as a source may be, and longer.
func TestTextLimit(t *testing.T) {
	half := slices.Repeat(list(name("a")), api.MaxSource/2)
	expectText(t, half, strings.Repeat("a ", api.MaxSource/2-1)+"a", api.OK)
	expectText(t, append(slices.Clone(half), name("b")), "", api.ErrLimit)
	two := append(slices.Clone(half[1:]), name("aa"))
	expectText(t, two, strings.Repeat("a ", api.MaxSource/2-1)+"aa", api.OK)
	two[0] = num(12)
	expectText(t, two, "", api.ErrLimit)
	two[0] = str("")
	expectText(t, two, "", api.ErrLimit)
	expectText(t, slices.Repeat(list(str(strings.Repeat("'", api.MaxText))), 50), "", api.ErrLimit)
	expectText(t, slices.Repeat(list(name("a")), 1<<20), "", api.ErrLimit)
}

// P2.4
func TestSame(t *testing.T) {
	all := samples()
	for _, x := range noTokens() {
		if !slices.Contains(all, x) {
			all = append(all, x)
		}
	}
	for i, a := range all {
		for j, b := range all {
			if got := lex.Same(list(a), list(b)); got != (a.Kind == b.Kind && a.Text == b.Text && a.N == b.N) {
				t.Error(i, a, j, b, got)
			}
		}
		if !lex.Same(list(name("x"), a), list(at(1, 2, name("x")), at(1<<62, -5, a))) {
			t.Error("positions matter:", a)
		}
	}
	for _, c := range []struct {
		a, b []api.Token
		want bool
	}{
		{nil, nil, true}, {nil, list(), true}, {list(), nil, true},
		{list(num(1)), nil, false}, {nil, list(num(1)), false}, {list(num(1)), list(num(1), num(1)), false}, {list(num(1), num(1)), list(num(1)), false},
		{list(num(1), num(2)), list(num(2), num(1)), false}, {list(num(1), num(2)), list(num(1), num(2)), true}, {list(num(1), num(2)), list(num(1), num(3)), false},
		{list(name("a")), list(str("a")), false}, {list(word("select")), list(name("select")), false}, {list(num(0)), list(str("")), false}, {list(api.Token{}), nil, false},
	} {
		if got := lex.Same(c.a, c.b); got != c.want {
			t.Error(c.a, c.b, got)
		}
	}
}
