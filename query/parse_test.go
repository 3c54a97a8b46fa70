package query_test

import (
	"fmt"
	"reflect"
	"strings"
	"testing"

	"justiciar/api"
	"justiciar/lex"
)

func expectTrees[T any](t *testing.T, k kind[T], l []sample[T]) {
	t.Helper()
	for _, x := range l {
		for _, s := range []string{x.text, x.want, " --\n\t" + x.text + "--"} {
			if got := k.tree(t, s); !k.same(got, x.tree) || !reflect.DeepEqual(bare(got), bare(x.tree)) {
				t.Errorf("%q: %s, want %s", s, short(got), short(x.tree))
			}
		}
	}
}

// P4.1
func TestParse(t *testing.T) { expectTrees(t, queries(), querySamples()) }

// P4.2
func TestParseChange(t *testing.T) { expectTrees(t, changes(), changeSamples()) }

// places returns the kinds of a tree's nodes with their positions, each ahead of those within it.
func places(x any) string {
	var l []string
	visit(reflect.ValueOf(x), "", func(name string, v reflect.Value) {
		if v.Kind() == reflect.Struct && v.FieldByName("Line").IsValid() {
			l = append(l, fmt.Sprintf("%s@%d:%d", v.Type().Name(), v.FieldByName("Line").Int(), v.FieldByName("Col").Int()))
		}
	})
	return strings.Join(l, " ")
}

func expectPlaces[T any](t *testing.T, k kind[T], l map[string]string) {
	t.Helper()
	for s, want := range l {
		if got := places(k.tree(t, s)); got != want {
			t.Errorf("%q: %s, want %s", s, got, want)
		}
	}
}

// P4.1: queries and sources begin at their first tokens, expressions as layer 3 says.
func TestPositions(t *testing.T) {
	expectPlaces(t, queries(), map[string]string{
		"select a from t": "Query@1:1 Expr@1:8 Source@1:15",
		"\n --\n\tselect\n a + b as c from u . t x":                          "Query@3:2 Expr@4:4 Expr@4:2 Expr@4:6 Source@4:18",
		" select * from t,\nu.v as of (a)+1 y, w as of (b)":                  "Query@1:2 Source@1:16 Source@2:1 Expr@2:14 Expr@2:12 Expr@2:15 Source@2:20 Expr@2:29",
		"select distinct a from t for\nupdate":                               "Query@1:1 Expr@1:17 Source@1:24",
		"select a from t where\nb group by c, d is null":                     "Query@1:1 Expr@1:8 Source@1:15 Expr@2:1 Expr@2:12 Expr@2:17 Expr@2:15",
		"select a from t having not b order by c desc, - d":                  "Query@1:1 Expr@1:8 Source@1:15 Expr@1:24 Expr@1:28 Expr@1:39 Expr@1:47 Expr@1:49",
		"select (select a from t) from t\nwhere exists (\n select * from u)": "Query@1:1 Expr@1:8 Query@1:9 Expr@1:16 Source@1:23 Source@1:31 Expr@2:7 Query@3:2 Source@3:16",
	})
}

// P4.2: changes, and queries in them, begin at their first tokens.
func TestPositionsOfChanges(t *testing.T) {
	expectPlaces(t, changes(), map[string]string{
		" insert into t values (a, - b)":                   "Change@1:2 Expr@1:24 Expr@1:27 Expr@1:29",
		"\n\ninsert into u.t (a)\n  select b from\nt x":    "Change@3:1 Query@4:3 Expr@4:10 Source@5:1",
		"--\nupdate t set a = b + 1, c = (d)\nwhere e = f": "Change@2:1 Expr@2:20 Expr@2:18 Expr@2:22 Expr@2:30 Expr@3:9 Expr@3:7 Expr@3:11",
		"delete\nfrom t where\n(a)":                        "Change@1:1 Expr@3:2",
		"\tdelete from t":                                  "Change@1:2",
	})
}

// expectLexFaults expects that faults of layer 2 come before all others.
func expectLexFaults[T any](t *testing.T, k kind[T], begin string) {
	t.Helper()
	n := len(begin)
	k.expectFault(t, begin+" ? b", api.ErrLex, "?", 1, n+2)
	k.expectFault(t, begin+" ) ?", api.ErrLex, "?", 1, n+4)
	k.expectFault(t, begin+"\n'a", api.ErrLex, "'", 2, 1)
	k.expectFault(t, begin+" 1099511627777 where", api.ErrRange, "1099511627777", 1, n+2)
	k.expectFault(t, strings.Repeat(" ", api.MaxSource)+begin, api.ErrLimit, "", 0, 0)
	k.expectFault(t, strings.Repeat("a ", api.MaxTokens)+"b", api.ErrLimit, "b", 1, 2*api.MaxTokens+1)
}

// P4.1, P4.2
func TestLexFaults(t *testing.T) {
	expectLexFaults(t, queries(), "select a from t where b =")
	expectLexFaults(t, changes(), "update t set a =")
}

// expectSyntaxFaults expects ErrSyntax at the token behind each ^. Strings have a ~ or a line's end between them.
func expectSyntaxFaults[T any](t *testing.T, k kind[T], all string) {
	t.Helper()
	for _, s := range strings.FieldsFunc(all, func(c rune) bool { return c == '~' || c == '\n' }) {
		before, behind, found := strings.Cut(s, "^")
		tokens, f := lex.Lex(behind)
		if f.Code != api.OK || !found {
			t.Fatalf("%q: %v", s, f)
		}
		called, _ := lex.Text(tokens[:1])
		if tokens[0].Kind == api.TokText {
			called = "'"
		}
		k.expectFault(t, before+behind, api.ErrSyntax, called, 1, len(before)+1)
		k.expectFault(t, "--\n\n "+before+behind+" ) from select 'a' where", api.ErrSyntax, called, 3, len(before)+2)
	}
}

// P4.1: the first token that cannot stand where it does.
func TestSyntaxFaults(t *testing.T) {
	expectSyntaxFaults(t, queries(), `^a~^1~^'a'~^(select a from t)~^from~^insert into t values (1)~^;~^delete from t~^distinct
select ^from t~select a ^b from t~select a ^)~select a, ^from t~select *^, a from t~select * ^a from t~select * ^where a~select t.^* from t~select a, ^* from t~select distinct ^distinct a from t~select distinct ^from t~select ^select a from t~select a ^; from t
select a as ^1 from t~select a as ^select from t~select a as ^'b' from t~select a as b ^c from t~select a as b^.c from t~select a as b ^as c from t~select a ^into b from t~select count ^from t~select a+^from t~select (a ^from t~select a not ^from t~select a ^desc from t~select ^all a from t~select ^as b from t
select a from ^;~select a from ^1~select a from ^'t'~select a from ^(select a from t)~select a from ^where b~select a from t,^;~select a from t, ^where b~select a from t as ^b~select a from t as ^from~select a from u.t^.v~select a from u.^1~select a from t x ^y~select a from t x^.y~select a from t ^1~select a from t^(b)~select a from t ^from u~select a from t x ^as of 1~select a from t as of 1 ^as of 2~select a from ^count~select a from t ^count
select a from t as of ^;~select a from t as of ^not b~select a from t as of b ^= c~select a from t as of b ^or c~select a from t as of b ^is null~select a from t as of b ^between c and d~select a from t as of b x ^y~select a from t as of 1 ^2~select a from t as of 1 x^.y~select a from t as of^, u~select a from t as of ^where b~select a from t ^of 1
select a from t where ^;~select a from t where ^where b~select a from t where b ^where c~select a from t where b^, c~select a from t where ^group by a~select a from t where b ^c~select a from t where b = c ^= d~select a from t where ^select a from t~select a from t where b in (^select a from t)~select a from t where exists ^a~select a from t where b ^desc
select a from t ^by b~select a from t group ^b~select a from t group by ^;~select a from t group by b,^;~select a from t group by b ^desc~select a from t group by b ^where c~select a from t group by b ^group by c~select a from t group by b ^as c~select a from t group by ^having b~select a from t group ^order by b
select a from t having ^;~select a from t having b^, c~select a from t having b ^group by c~select a from t having b ^where c~select a from t having b ^having c~select a from t having ^order by b
select a from t order ^b~select a from t order by ^;~select a from t order by ^desc~select a from t order by b desc ^desc~select a from t order by b,^;~select a from t order by b desc ^c~select a from t order by b ^having c~select a from t order by b ^where c~select a from t order by b ^group by c~select a from t order by b ^order by c~select a from t order by b ^asc~select a from t order by b desc^.c
select a from t for ^;~select a from t for ^x~select a from t for ^for update~select a from t ^update~select a from t for update ^for update~select a from t for update ^where b~select a from t for update ^;~select a from t for update^, u~select a from t for update ^of a~select a from t for update ^order by a~select a from t for update ^'x'~select a from t order by b for ^desc
select (select a from t ^for update) from t~select a from t where exists (select a from t ^for update) for update~select a from t as of (select a from t where b ^for update)~select a from t where b in ((select a from t order by b ^for update))~select a from t order by f((select * from t x ^for update))`)
}

// P4.2: the first token that cannot stand where it does.
func TestSyntaxFaultsOfChanges(t *testing.T) {
	expectSyntaxFaults(t, changes(), `^a~^1~^'a'~^;~^(insert into t values (1))~^select a from t~^into t~^values (1)~^set a = 1~^merge
insert ^t values (1)~insert ^values (1)~insert into ^values (1)~insert into ^(a) values (1)~insert into ^1~insert into ^select a from t~insert into u.t^.v values (1)~insert into u.^values (1)~insert into t ^x values (1)~insert into t ^as of 1~insert into t ^;~insert into t ^1~insert into t ^set a = 1~insert into t ^where a
insert into t (^)~insert into t (^1) values (1)~insert into t (^select a from t)~insert into t (a^.b) values (1)~insert into t (a ^b) values (1)~insert into t (a,^) values (1)~insert into t (a, ^'b') values (1)~insert into t (a)^, b~insert into t (a) ^(b) values (1)~insert into t (a) ^;~insert into t (a ^values (1)~insert into t (^values) values (1)
insert into t values ^1~insert into t values (^)~insert into t values (1,^)~insert into t values (1 ^2)~insert into t values (1 ^;~insert into t values (^select a from t)~insert into t values (1)^, (2)~insert into t values (1) ^select a from t~insert into t values (1) ^where a~insert into t values (1) ^;~insert into t values (^*)~insert into t values (a ^as b)~insert into t (a) values (^default)
insert into t select ^from t~insert into t select a from t ^for update~insert into t select a from t x order by b ^for update~insert into t select a from t where b ^values (1)~insert into t select a from t ^;~insert into t select a from t x ^y~insert into t (a) ^(select a from t)~insert into t select a as b ^c from t~insert into t (a) select * from t ^for update~insert into t values ((select a from t ^for update))
update ^set a = 1~update ^1~update ^from t set a = 1~update u.t^.v set a = 1~update t ^x set a = 1~update t ^where a~update t ^;~update t ^(a)~update t ^as~update t ^a = 1
update t set ^;~update t set ^1 = a~update t set ^where a~update t set ^(a) = 1~update t set a^.b = 1~update t set a ^:= 1~update t set a ^1~update t set a ^is null~update t set a = ^;~update t set a = ^where b~update t set a = 1 ^b = 2~update t set a = 1,^;~update t set a = 1, ^where b~update t set a = b = c ^= d~update t set a = ^select b from t~update t set a = 1 ^set b = 2~update t set a = 1, ^set b = 2~update t set ^set = 1~update t set a ^<= 1~update t set a = ^default
update t set a = 1 where ^;~update t set a = 1 where b^, c = 2~update t set a = 1 where b ^where c~update t set a = 1 where b ^group by c~update t set a = 1 where b ^for update~update t set a = 1 where b ^;~update t set a = 1 ^order by b~update t set a = (select b from t ^for update)
delete ^t~delete ^where a~delete from ^where a~delete from ^1~delete from t ^x~delete from u.t^.v~delete from t^, u~delete from t ^;~delete from t ^as of 1~delete from t where ^;~delete from t where a ^where b~delete from t where a ^b~delete from t where a ^order by b~delete from t where a ^for update~delete from t where exists (select a from t ^for update)~delete ^* from t~delete from t ^group by a~delete from t ^values (1)`)
}

func expectEnds[T any](t *testing.T, k kind[T], l []sample[T]) {
	t.Helper()
	for _, s := range []string{"", "  ", "--a", "\t"} {
		k.expectFault(t, s, api.ErrEnd, "", 1, len(s)+1)
	}
	k.expectFault(t, "\n\r\n --\n ", api.ErrEnd, "", 4, 2)
	for _, x := range l {
		tokens, _ := lex.Lex(x.want)
		for i, token := range tokens {
			before := x.want[:token.Col-1]
			tree, f := k.parse(before + "--'\n ")
			if f == (api.Fault{}) && k.valid(tree) && i > 2 {
				continue // it may end here
			}
			if want := (api.Fault{Code: api.ErrEnd, Line: 2, Col: 2}); f != want {
				t.Errorf("%q: %v, want %v", before, f, want)
			}
		}
	}
}

// P4.1, P4.2: each part from the beginning is whole, or ends too early.
func TestParts(t *testing.T) {
	expectEnds(t, queries(), querySamples())
	expectEnds(t, changes(), changeSamples())
}

// P4.1, P4.2: more is needed, behind the last byte.
func TestEnds(t *testing.T) {
	for _, s := range []string{"select", "select distinct", "select a", "select a as", "select a,", "select *", "select a from", "select a from u.", "select a from t,", "select a from t as", "select a from t as of", "select a from t as of a +", "select a from t where", "select a from t group", "select a from t group by", "select a from t group by a,", "select a from t having", "select a from t order", "select a from t order by", "select a from t order by a,", "select a from t for", "select (select a from t", "select a from t where a not", "select exists"} {
		queries().expectFault(t, s, api.ErrEnd, "", 1, len(s)+1)
	}
	for _, s := range []string{"insert", "insert into", "insert into t", "insert into u.", "insert into t (", "insert into t (a", "insert into t (a,", "insert into t (a)", "insert into t values", "insert into t values (", "insert into t values (a", "insert into t values (a,", "insert into t select", "insert into t select a", "insert into t select a from", "update", "update t", "update u.", "update t set", "update t set a", "update t set a =", "update t set a = 1,", "update t set a = 1, b", "update t set a = 1 where", "delete", "delete from", "delete from u.", "delete from t where", "delete from t where a ="} {
		changes().expectFault(t, s, api.ErrEnd, "", 1, len(s)+1)
	}
}

// P4.1, P4.2: what a fault calls its token.
func TestNamesOfFaults(t *testing.T) {
	longest := strings.Repeat("m", api.MaxName)
	for s, want := range map[string]string{"a_1": "a_1", "1": "1", "007": "7", "1099511627776": "1099511627776", "''": "'", "'it''s'": "'", "select": "select", ":=": ":=", ".": ".", longest: longest} {
		queries().expectFault(t, "select a as b\n "+s+" from", api.ErrSyntax, want, 2, 2)
		changes().expectFault(t, "insert into t (a)\n "+strings.Replace(s, "select", "update", 1)+" from", api.ErrSyntax, strings.Replace(want, "select", "update", 1), 2, 2)
	}
}
