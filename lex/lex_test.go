package lex_test

import (
	"slices"
	"strconv"
	"strings"
	"testing"

	"justiciar/api"
	"justiciar/lex"
)

// P2.1: the chapter's examples, and a statement of all kinds of tokens.
func TestLex(t *testing.T) {
	expect(t, "a<=b..c -- d", at(1, 1, name("a")), at(1, 2, sign("<=")), at(1, 4, name("b")), at(1, 5, sign("..")), at(1, 7, name("c")))
	expect(t, "'it''s'", at(1, 1, str("it's")))
	expect(t, "update t set c_1='x'\nwhere n>=10;", at(1, 1, word("update")), at(1, 8, name("t")), at(1, 10, word("set")), at(1, 14, name("c_1")), at(1, 17, sign("=")), at(1, 18, str("x")),
		at(2, 1, word("where")), at(2, 7, name("n")), at(2, 8, sign(">=")), at(2, 10, num(10)), at(2, 12, sign(";")))
	for _, s := range []string{"", " ", "\n", "\t\r\n ", "--", "-- a", "--\n--\n", " -- ' ? \x00 \xff A\n\n"} {
		expect(t, s)
	}
}

// P2.1: a token of each word and sign, and where one ends.
func TestKinds(t *testing.T) {
	for _, s := range allWords() {
		expect(t, s, at(1, 1, word(s)))
		expect(t, s+"_", at(1, 1, name(s+"_")))
		expect(t, s+"1", at(1, 1, name(s+"1")))
		expect(t, "'"+s+"'", at(1, 1, str(s)))
	}
	for _, s := range signs() {
		expect(t, s, at(1, 1, sign(s)))
		expect(t, "a"+s+"1", at(1, 1, name("a")), at(1, 2, sign(s)), at(1, 2+len(s), num(1)))
	}
	for _, s := range []string{"a", "z", "a1", "a_", "a_b9", "others", "int1", "x__", longestName()} {
		expect(t, s, at(1, 1, name(s)))
	}
	expect(t, "12ab3", at(1, 1, num(12)), at(1, 3, name("ab3")))
	expect(t, "1select", at(1, 1, num(1)), at(1, 2, word("select")))
	expect(t, "a'b'c", at(1, 1, name("a")), at(1, 2, str("b")), at(1, 5, name("c")))
	expect(t, "-1", at(1, 1, sign("-")), at(1, 2, num(1)))
	expect(t, "1.5", at(1, 1, num(1)), at(1, 2, sign(".")), at(1, 3, num(5)))
}

// P2.1: the longest sign that stands at a place is taken.
func TestLongestSign(t *testing.T) {
	for s, want := range map[string]string{
		"...": ".. .", "....": ".. ..", ":=:": ":= :", "::=": ": :=", ":==": ":= =", "=:=": "= :=", "<<=": "< <=", "<=>": "<= >", "<>=": "<> =", "<<>>": "< <> >", "=>": "= >", ">=>": ">= >", "=<": "= <", "><": "> <", ">>=": "> >=", "||||": "|| ||", "-+-": "- + -", "(*)": "( * )", "%%": "% %", ".,;": ". , ;", "<-1": "< - 1", "- -": "- -", "-\n-": "- -", "*/": "* /",
	} {
		l, f := lex.Lex(s)
		if got, e := lex.Text(l); f.Code != api.OK || e != api.OK || got != want {
			t.Error(s, got, f)
		}
	}
}

// P2.1
func TestIntegers(t *testing.T) {
	most := strconv.Itoa(api.MaxInt)
	for s, want := range map[string]int{"0": 0, "7": 7, "10": 10, "007": 7, "000": 0, most: api.MaxInt, "00" + most: api.MaxInt, strings.Repeat("0", 100) + "12": 12} {
		expect(t, s, at(1, 1, num(want)))
	}
	forty := strings.Repeat("1234567890", 4)
	for s, want := range map[string]string{
		"1099511627777": "1099511627777", "01099511627777": "01099511627777", "9223372036854775807": "9223372036854775807", "9223372036854775808": "9223372036854775808", "18446744073709551617": "18446744073709551617",
		forty[:39]: forty[:39], forty: forty, forty + "5": forty, strings.Repeat("0", 60) + most + "0": strings.Repeat("0", 40), strings.Repeat("9", api.MaxSource): strings.Repeat("9", 40),
	} {
		expectFault(t, s, api.ErrRange, want, 1, 1)
	}
	expectFault(t, "a :=\n 1099511627777abc ?", api.ErrRange, "1099511627777", 2, 2)
}

// P2.1
func TestStrings(t *testing.T) {
	quotes := func(n int) string { return strings.Repeat("'", n) }
	for s, want := range map[string]string{
		"''": "", "' '": " ", "''''": "'", "''''''": "''", "'a''b'": "a'b", "'''a'": "'a", "'a'''": "a'", "'''a'''": "'a'", "'--'": "--", "'A?_%'": "A?_%", "'~'": "~",
		"'" + longestText() + "'": longestText(), quotes(2*api.MaxText + 2): quotes(api.MaxText), "'" + longestText()[1:] + "'''": longestText()[1:] + "'",
	} {
		expect(t, s, at(1, 1, str(want)))
	}
	expect(t, "'a' 'b'", at(1, 1, str("a")), at(1, 5, str("b")))
	expect(t, "''''''''+''", at(1, 1, str("'''")), at(1, 9, sign("+")), at(1, 10, str("")))
	for _, s := range []string{"'", "'a", "'''", "'a''", "'''''", "''a'", "'a'b'", "'a--'b'"} {
		_, f := lex.Lex(s)
		if f.Code != api.ErrLex || f.Name != "'" || f.Line != 1 {
			t.Error(s, f)
		}
	}
	expectFault(t, "\n  ''a'", api.ErrLex, "'", 2, 6)
	expectFault(t, "x 'a", api.ErrLex, "'", 1, 3)
	for c := range 256 {
		s := "'a" + string([]byte{byte(c)}) + "b'"
		if 32 <= c && c <= 126 {
			if l, f := lex.Lex(s); c != '\'' && (f.Code != api.OK || len(l) != 1 || l[0].Text != s[1:4]) {
				t.Errorf("%q: %v %v", s, l, f)
			}
			continue
		}
		expectFault(t, "-"+s, api.ErrLex, "'", 1, 2)
		expectFault(t, "\n"+s[:3], api.ErrLex, "'", 2, 1)
	}
}

// P2.1: of one string ErrLex comes before ErrRange.
func TestLongStrings(t *testing.T) {
	expectFault(t, "'"+longestText()+"x'", api.ErrRange, "'", 1, 1)
	expectFault(t, "a\n '"+longestText()+"''' ?", api.ErrRange, "'", 2, 2)
	expectFault(t, strings.Repeat("'", 2*api.MaxText+4), api.ErrRange, "'", 1, 1)
	expectFault(t, "'"+strings.Repeat("y", api.MaxSource-2)+"'", api.ErrRange, "'", 1, 1)
	expectFault(t, "'"+longestText()+"x", api.ErrLex, "'", 1, 1)
	expectFault(t, "'"+longestText()+"x\n'", api.ErrLex, "'", 1, 1)
	expectFault(t, "'"+longestText()+"x\x7fy'", api.ErrLex, "'", 1, 1)
}

// P2.1
func TestNames(t *testing.T) {
	long := longestName()
	expectFault(t, long+"a", api.ErrRange, long, 1, 1)
	expectFault(t, "1 "+long+"_", api.ErrRange, long, 1, 3)
	expectFault(t, long+"0"+strings.Repeat("b", 500)+" ?", api.ErrRange, long, 1, 1)
	expectFault(t, strings.Repeat("select", 6), api.ErrRange, strings.Repeat("select", 5), 1, 1)
	expect(t, long+"+"+long, at(1, 1, name(long)), at(1, 1+api.MaxName, sign("+")), at(1, 2+api.MaxName, name(long)))
	expectFault(t, "aB", api.ErrLex, "B", 1, 2)
	expectFault(t, "_a", api.ErrLex, "_", 1, 1)
	expectFault(t, "1_0", api.ErrLex, "_", 1, 2)
}

// P2.1: a byte with which no token begins.
func TestStrayBytes(t *testing.T) {
	begins := "abcdefghijklmnopqrstuvwxyz0123456789(),;.:=<>+-*/%"
	for c := range 256 {
		s := string([]byte{byte(c)})
		switch {
		case strings.Contains(" \t\n\r", s):
			expect(t, s)
		case strings.Contains(begins, s):
			if l, f := lex.Lex(s); f.Code != api.OK || len(l) != 1 {
				t.Errorf("%q: %v %v", s, l, f)
			}
		default: // also | and ', of which one is too few
			expectFault(t, s, api.ErrLex, s, 1, 1)
			expectFault(t, "a\n\t1"+s, api.ErrLex, s, 2, 3)
			expectFault(t, "1;"+s+" ?", api.ErrLex, s, 1, 3)
		}
	}
	expectFault(t, "|||", api.ErrLex, "|", 1, 3)
	expectFault(t, "a | b", api.ErrLex, "|", 1, 3)
	expectFault(t, "|--|", api.ErrLex, "|", 1, 1)
	expectFault(t, "ä", api.ErrLex, "\xc3", 1, 1)
}

// P2.1: the first fault is returned.
func TestFirstFault(t *testing.T) {
	expectFault(t, "a ? 1099511627777", api.ErrLex, "?", 1, 3)
	expectFault(t, "a 1099511627777 ?", api.ErrRange, "1099511627777", 1, 3)
	expectFault(t, "-- ?\n'' ! ?", api.ErrLex, "!", 2, 4)
	expectFault(t, "? '", api.ErrLex, "?", 1, 1)
	expectFault(t, "' ?", api.ErrLex, "'", 1, 1)
}

// P2.1: bytes 10 alone make lines; Col counts bytes.
func TestPositions(t *testing.T) {
	expect(t, "a\rb", at(1, 1, name("a")), at(1, 3, name("b")))
	expect(t, "a\r\nb", at(1, 1, name("a")), at(2, 1, name("b")))
	expect(t, "\ta\t\tb", at(1, 2, name("a")), at(1, 5, name("b")))
	expect(t, "\n\n \n a", at(4, 2, name("a")))
	expect(t, "a --\r b\nc", at(1, 1, name("a")), at(2, 1, name("c")))
	expect(t, "--ä\n--\n\n  -- a\n  b--c\n d", at(5, 3, name("b")), at(6, 2, name("d")))
	expect(t, "a---b\n-", at(1, 1, name("a")), at(2, 1, sign("-")))
	expect(t, "a\n\nb\n", at(1, 1, name("a")), at(3, 1, name("b")))
	expectFault(t, "a\r?", api.ErrLex, "?", 1, 3)
	expectFault(t, "--\n--\n ?", api.ErrLex, "?", 3, 2)
}

// P2.1
func TestMaxSource(t *testing.T) {
	blanks := strings.Repeat(" ", api.MaxSource)
	expect(t, blanks)
	expect(t, blanks[1:]+"a", at(1, api.MaxSource, name("a")))
	expect(t, strings.Repeat("\n", api.MaxSource-1)+"a", at(api.MaxSource, 1, name("a")))
	expect(t, "--"+strings.Repeat("-", api.MaxSource-2))
	expectFault(t, blanks[1:]+"?", api.ErrLex, "?", 1, api.MaxSource)
	for _, s := range []string{blanks + " ", blanks + "a", "?" + blanks, "'" + blanks, strings.Repeat("9", api.MaxSource+1), strings.Repeat("a ", api.MaxSource)} {
		expectFault(t, s, api.ErrLimit, "", 0, 0)
	}
}

// P2.1: a token too many is the fault only if it is a token, and none before it is another one.
func TestMaxTokens(t *testing.T) {
	full := strings.Repeat("a\n", api.MaxTokens)
	for _, s := range []string{"", " ", "-- b", "--\n\n"} {
		if l, f := lex.Lex(full + s); f != (api.Fault{}) || len(l) != api.MaxTokens || l[api.MaxTokens-1] != at(api.MaxTokens, 1, name("a")) {
			t.Errorf("%q: %d tokens, %v", s, len(l), f)
		}
	}
	line := api.MaxTokens + 1
	for s, want := range map[string]string{"b": "b", "b c": "b", "select": "select", "'it''s'x": "'it''s'", "''": "''", "007": "7", "0": "0", "<=>": "<=", ".": ".", "b ?": "b"} {
		expectFault(t, full+s, api.ErrLimit, want, line, 1)
		expectFault(t, full+"--\n "+s, api.ErrLimit, want, line+1, 2)
	}
	expectFault(t, full+"?", api.ErrLex, "?", line, 1)
	expectFault(t, full+"'", api.ErrLex, "'", line, 1)
	expectFault(t, full+"1099511627777", api.ErrRange, "1099511627777", line, 1)
	expectFault(t, full+longestName()+"x", api.ErrRange, longestName(), line, 1)
	expectFault(t, full+"'"+longestText()+"x'", api.ErrRange, "'", line, 1)
	expectFault(t, "?"+full+"b", api.ErrLex, "?", 1, 1)
}

// P2.1: the same calls give the same results, and these are their own.
func TestLexAgain(t *testing.T) {
	s := "select 'a', 12 from t"
	first, _ := lex.Lex(s)
	want := slices.Clone(first)
	clear(first)
	expect(t, s, want...)
}
