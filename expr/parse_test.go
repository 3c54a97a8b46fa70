package expr_test

import (
	"fmt"
	"strings"
	"testing"

	"justiciar/api"
	"justiciar/expr"
	"justiciar/lex"
)

// P3.1
func TestParse(t *testing.T) {
	for _, x := range samples() {
		if e := parse(t, x.text); !expr.Same(e, x.expr) {
			t.Errorf("%s: %s, want %s", x.text, short(e), short(x.expr))
		}
	}
}

// places returns the nodes of an expression, each ahead of those within it, with their positions.
func places(e api.Expr) string {
	what := e.Text
	switch {
	case e.Op == api.EConst:
		what = "const"
	case len(e.Path) > 0:
		what = strings.Join(e.Path, ".")
	case what == "":
		what = fmt.Sprint("op", int(e.Op))
	}
	s := fmt.Sprintf("%s@%d:%d ", what, e.Line, e.Col)
	for _, k := range e.Kids {
		s += places(k)
	}
	for _, q := range e.Query {
		s += placesOfQuery(q)
	}
	return s
}

func placesOfQuery(q api.Query) string {
	s := fmt.Sprintf("select@%d:%d ", q.Line, q.Col)
	for _, x := range q.List {
		s += places(x.Expr)
	}
	for _, x := range q.From {
		s += fmt.Sprintf("from-%s@%d:%d ", strings.Join(x.Path, "."), x.Line, x.Col)
		for _, e := range x.AsOf {
			s += places(e)
		}
	}
	for _, l := range [][]api.Expr{q.Where, q.Group, q.Having} {
		for _, e := range l {
			s += places(e)
		}
	}
	for _, o := range q.Order {
		s += places(o.Expr)
	}
	return s
}

// P3.1: an expression begins at its first token, an operation behind an operand where it stands itself.
func TestPositions(t *testing.T) {
	for s, want := range map[string]string{
		"a":                              "a@1:1 ",
		"\n --\n\ta . b":                 "a.b@3:2 ",
		"1":                              "const@1:1 ",
		" 'a'":                           "const@1:2 ",
		" true":                          "const@1:2 ",
		"  null":                         "const@1:3 ",
		" :new.a":                        "new.a@1:2 ",
		" - a":                           "-@1:2 a@1:4 ",
		"- -a":                           "-@1:1 -@1:3 a@1:4 ",
		"not\nnot a":                     "not@1:1 not@2:1 a@2:5 ",
		"a + b * c":                      "+@1:3 a@1:1 *@1:7 b@1:5 c@1:9 ",
		"a - b - c":                      "-@1:7 -@1:3 a@1:1 b@1:5 c@1:9 ",
		"a\nor\n b":                      "or@2:1 a@1:1 b@3:2 ",
		"a like b":                       "like@1:3 a@1:1 b@1:8 ",
		"a not\nlike b":                  "not@1:3 like@2:1 a@1:1 b@2:6 ",
		"a is null":                      "op5@1:3 a@1:1 ",
		"a is not null":                  "op5@1:3 a@1:1 ",
		"a in (b, c)":                    "op6@1:3 a@1:1 b@1:7 c@1:10 ",
		"a not in (b)":                   "op6@1:3 a@1:1 b@1:11 ",
		"a between b and c":              "op7@1:3 a@1:1 b@1:11 c@1:17 ",
		"a not between b and c":          "op7@1:3 a@1:1 b@1:15 c@1:21 ",
		" case when a then b else 1 end": "op8@1:2 a@1:12 b@1:19 const@1:26 ",
		" a.f(b)":                        "a.f@1:2 b@1:6 ",
		" count(a)":                      "count@1:2 a@1:8 ",
		" count(*)":                      "op10@1:2 ",
		" a % found":                     "a@1:2 ",
		" sql%found":                     "sql@1:2 ",
		"(a)":                            "a@1:2 ",
		"((a) + (b))":                    "+@1:6 a@1:3 b@1:9 ",
		"(a is null)":                    "op5@1:4 a@1:2 ",
		"( (select a from t))":           "op11@1:3 select@1:4 a@1:11 from-t@1:18 ",
		" exists (select * from t)":      "op12@1:2 select@1:10 from-t@1:24 ",
		"not exists(select * from t)":    "not@1:1 op12@1:5 select@1:12 from-t@1:26 ",
		"(select distinct a as b, c\nfrom t x, u.t as of 1+d y where e\ngroup by f, g having h order by i desc, j)": "op11@1:1 select@1:2 a@1:18 c@1:26 from-t@2:6 from-u.t@2:11 +@2:22 const@2:21 d@2:23 e@2:33 f@3:10 g@3:13 h@3:22 i@3:33 j@3:41 ",
	} {
		if got := places(parse(t, s)); got != want {
			t.Errorf("%q: %s, want %s", s, got, want)
		}
	}
}

// P3.1: a fault of layer 2 comes before all others.
func TestLexFaults(t *testing.T) {
	expectFault(t, "a ? b", api.ErrLex, "?", 1, 3)
	expectFault(t, "a b ?", api.ErrLex, "?", 1, 5)
	expectFault(t, "+ 'a", api.ErrLex, "'", 1, 3)
	expectFault(t, "a +\n1099511627777", api.ErrRange, "1099511627777", 2, 1)
	expectFault(t, strings.Repeat(" ", api.MaxSource)+"a", api.ErrLimit, "", 0, 0)
	expectFault(t, strings.Repeat("a ", api.MaxTokens)+"b", api.ErrLimit, "b", 1, 2*api.MaxTokens+1)
	expectFault(t, strings.Repeat("- ", api.MaxTokens)+"'it''s'", api.ErrLimit, "'it''s'", 1, 2*api.MaxTokens+1)
}

// P3.1: the first token that cannot stand where it does: ^ is before it. Strings have a ~ between them.
const syntaxFaults = `^)~^,~^+~^and~^or~^%~^..~^;~^:=~^select~^from~^in~^is~^when~^end~^new~^found~^int~^.~^= a~^*~^||~^select a from t
a ^b~a ^1~a ^'b'~a ^)~a ^,~a ^;~a ^select~a ^case~a ^exists~1 ^(b)~a+^+b~a+^*b~a-^not b~-^not a~- ^and~a*^)~a||^or~a mod ^mod~1 ^2~true ^false~a ^true~not ^or
a and ^and b~a or^)~not ^and~not^)~a = ^not b~a = b ^= c~a < b ^> c~a is null ^is null~a = b ^is null~a is null ^= b~a like b ^like c~a like ^not b~a in (b) ^in (c)~a between b and c ^= d~a between b and c ^between d and e
a is ^true~a is not ^not null~a is ^a~a not ^null~a not ^is null~a not ^= b~a not ^b~a not ^not in (b)~a is not ^in (b)~a = b ^not in (c)~a not like b ^not like c
a in ^b~a in (^)~a in (^select b from t)~a in (b ^c)~a in (b,^)~a in (b, ^select c from t)~a between b ^or c~a between b ^, c~a between ^not b and c~a between b and ^not c~a between b ^= c~a in ^exists
a.^1~a.^select~a.^count~a.^'b'~a.b.c^.d~a.b.c^.d(e)~a.b.c^.1~a^..b~f(a)^(b)~f(a)^.b~f(^,)~f(a ^b)~f(a,^)~f(^*)~f(^select a from t)~(a)^(b)~(a)^.b~1^.a~1^.2~'a'^.b~'a' ^'b'~(a ^, b)~(^)~((a ^;))~((select a from t) ^b~a.^:new.b
:^a~:^a.b~:^1~:new^(a)~:new ^= 1~:new.^new~:new.^1~:old.a^.b~:old.a^(b)~:new.a^%found~: ^( a )~^new.a~^old
a%^a~a%^1~a%^open~a % ^( found )~a.b^%found~a.b.c^%found~f(a)^%found~1^%found~(a)^%found~a%found^%found~a%found^.b~a%found^(b)~sql^.a~sql^(a)~sql ^= 1~sql%^sql~count^%found~a ^found
count ^+ 1~count^.a~count^)~count(*^, a)~count(* ^a)~count(*^*a)~count(a ^b)~count(a,^*)~count(^distinct a)~count(^,)~sum(^*)
exists ^a~exists(^a)~exists(^(select a from t))~exists(^)~exists (select a from t ^= a)~not exists ^not~exists (select a from t) ^(
case ^a~case ^a when b then c end~case when ^then~case when a ^else~case when a ^end~case when a ^when b~case when a then ^end~case when a then b ^then~case when a then b ^, c end~case when a then b else ^end~case when a then b else c ^when d then e end~case when a then b else c ^else d end~case when a then b end ^end~case when a then b ^)~case ^;~case else ^end
(select ^from t)~(select a ^b from t)~(select a ^)~(select a, ^from t)~(select *^, a from t)~(select * ^a from t)~(select * ^)~(select t.^* from t)~(select a, ^* from t)~(select distinct ^distinct a from t)~(select distinct ^from t)~(select a as ^1 from t)~(select a as ^select from t)~(select a as b ^c from t)~(select a as b^.c from t)~(select ^select a from t)
(select a from ^)~(select a from ^1)~(select a from ^(select a from t))~(select a from ^where b)~(select a from t,^)~(select a from t as ^b)~(select a from u.t^.v)~(select a from t x ^y)~(select a from t x^.y)~(select a from t ^1)~(select a from t.^1)~(select a from t^(b))~(select a from t as of ^)~(select a from t as of ^not b)~(select a from t as of b ^= c)~(select a from t as of b ^or c)~(select a from t as of b c ^d)~(select a from t x ^as of 1)~(select a from t as of 1 ^as of 2)~(select a from ^count)
(select a from t where ^)~(select a from t where b ^where c)~(select a from t where ^group by a)~(select a from t where b ^c)~(select a from t ^by b)~(select a from t group ^a)~(select a from t group by ^)~(select a from t group by b,^)~(select a from t group by b ^desc)~(select a from t group by b ^where c)~(select a from t group by b ^group by c)~(select a from t having ^)~(select a from t having b ^, c)~(select a from t having b ^group by c)~(select a from t having b ^where c)
(select a from t order ^b)~(select a from t order by ^)~(select a from t order by ^desc)~(select a from t order by b desc ^desc)~(select a from t order by b,^)~(select a from t order by b desc ^c)~(select a from t order by b ^having c)~(select a from t order by b ^where c)~(select a from t order by b ^order by c)~(select a from t order by b ^asc)
(select a from t ^for update)~exists(select a from t ^for update)~(select a from t order by b ^for update)~(select a from t where a ^for update)~(select a from t where exists (select a from t ^for update))~(select a from t ^;)~(select a from t) ^from`

func TestSyntaxFaults(t *testing.T) {
	for _, s := range strings.FieldsFunc(syntaxFaults, func(c rune) bool { return c == '~' || c == '\n' }) {
		before, rest, _ := strings.Cut(s, "^")
		rest = strings.ReplaceAll(rest, "^", "")
		tokens, f := lex.Lex(rest)
		if f.Code != api.OK || len(tokens) == 0 {
			t.Fatalf("%q: %v", s, f)
		}
		called, _ := lex.Text(tokens[:1])
		if tokens[0].Kind == api.TokText {
			called = "'"
		}
		expectFault(t, before+rest, api.ErrSyntax, called, 1, len(before)+1)
		expectFault(t, "--\n\t--\n "+before+rest+" )", api.ErrSyntax, called, 3, len(before)+2)
	}
}

// P3.1: what a fault calls its token.
func TestNamesOfFaults(t *testing.T) {
	longest := strings.Repeat("m", api.MaxName)
	for s, want := range map[string]string{"a_1": "a_1", "1": "1", "007": "7", "1099511627776": "1099511627776", "''": "'", "'it''s'": "'", "'b c'": "'", "select": "select", ":=": ":=", "||||": "||", ".": ".", longest: longest} {
		before := "(a)"
		if want == "||" {
			before = "a+"
		}
		expectFault(t, before+"\n  "+s+" ,", api.ErrSyntax, want, 2, 3)
	}
}

// P3.1: more is needed, behind the last byte.
func TestEnds(t *testing.T) {
	for s, want := range map[string][2]int{
		"": {1, 1}, "  ": {1, 3}, "\n": {2, 1}, "--a": {1, 4}, "--a\n\n ": {3, 2}, "a + ": {1, 5}, "a +\n": {2, 1}, "a + -- b": {1, 9}, "\na\r\n.\r\n\t": {4, 2},
		"(": {1, 2}, "-": {1, 2}, "not": {1, 4}, "a or": {1, 5}, "a.": {1, 3}, "a(": {1, 3}, "a(b": {1, 4}, "a(b,": {1, 5}, ":": {1, 2}, ":new": {1, 5}, ":new.": {1, 6}, "a%": {1, 3}, "sql": {1, 4}, "sql%": {1, 5}, "count": {1, 6}, "count(": {1, 7}, "count(*": {1, 8},
		"a is": {1, 5}, "a is not": {1, 9}, "a not": {1, 6}, "a in": {1, 5}, "a in (": {1, 7}, "a in (b": {1, 8}, "a between": {1, 10}, "a between b": {1, 12}, "a between b and": {1, 16}, "a like": {1, 7},
		"exists": {1, 7}, "exists(": {1, 8}, "(select": {1, 8}, "case": {1, 5}, "case when": {1, 10}, "case when a": {1, 12}, "case when a then": {1, 17}, "case when a then b": {1, 19}, "case when a then b else": {1, 24},
	} {
		expectFault(t, s, api.ErrEnd, "", want[0], want[1])
	}
}

// P3.1: each part of an expression's tokens from its beginning is an expression, or ends too early.
func TestParts(t *testing.T) {
	for _, x := range samples() {
		tokens := strings.Fields(x.want)
		if strings.Contains(x.want, "'") {
			continue
		}
		for n := range tokens {
			s := strings.Join(tokens[:n], " ") + "\n "
			if e, f := expr.Parse(s); f != (api.Fault{Code: api.ErrEnd, Line: 2, Col: 2}) && (f != api.Fault{} || !expr.Valid(e)) {
				t.Errorf("%s: %v", s, f)
			}
		}
	}
}
