package resolve_test

import (
	"strings"
	"testing"

	"justiciar/api"
)

// P7.1: the types of expressions.
func TestTypes(t *testing.T) {
	x := call{world(t), "u", variables()}
	for _, one := range [][2]string{
		{"1", "int"}, {"'1'", "text"}, {"true", "bool"}, {"null", "null"}, {"a", "int"}, {"b", "text"}, {"c", "bool"}, {"v", "int"}, {"str", "text"}, {":old.a", "text"},
		{"-a", "int"}, {"-null", "int"}, {"not c", "bool"}, {"not null", "bool"}, {"a + v", "int"}, {"null + null", "int"}, {"a - null", "int"}, {"null * a", "int"}, {"a / 2", "int"}, {"a mod 2", "int"},
		{"b || str", "text"}, {"null || null", "text"}, {"a = 1", "bool"}, {"b <> 'x'", "bool"}, {"c < true", "bool"}, {"a >= null", "bool"}, {"null <= null", "bool"}, {"a > v", "bool"}, {"c and null", "bool"}, {"null or null", "bool"}, {"b like 'x'", "bool"}, {"b not like null", "bool"},
		{"a is null", "bool"}, {"'x' is not null", "bool"}, {"null is null", "bool"},
		{"a in (1, null, v)", "bool"}, {"null in ('x', b)", "bool"}, {"null in (null)", "bool"}, {"c not in (true, false)", "bool"}, {"a between 1 and null", "bool"}, {"b not between null and 'x'", "bool"}, {"c between false and true", "bool"},
		{"case when c then 1 end", "int"}, {"case when c then null end", "null"}, {"case when null then null else 'x' end", "text"}, {"case when c then null when not c then b else null end", "text"}, {"case when a = 1 then c else null end", "bool"}, {"case when c then a when true then 2 end", "int"},
		{"abs(a)", "int"}, {"sign(null)", "int"}, {"length(b)", "int"}, {"upper(b)", "text"}, {"lower(null)", "text"}, {"substr(b, a, null)", "text"}, {"to_text(a)", "text"}, {"to_int(b)", "int"},
		{"nvl(a, null)", "int"}, {"nvl(null, b)", "text"}, {"nvl(null, null)", "null"}, {"nullif(null, c)", "bool"}, {"least(a, 1)", "int"}, {"greatest('x', b)", "text"},
		{"count(*)", "int"}, {"count(a)", "int"}, {"count(b)", "int"}, {"count(null)", "int"}, {"sum(a)", "int"}, {"sum(null)", "int"}, {"min(a)", "int"}, {"max(b)", "text"}, {"min(c)", "bool"}, {"max(null)", "null"}, {"sum(a) + count(*)", "int"}, {"abs(max(a))", "int"},
		{"(select x from s)", "int"}, {"(select y from s)", "text"}, {"(select null from s)", "null"}, {"exists (select a, b from t)", "bool"}, {"not exists (select * from t)", "bool"}, {"(select z from nix) + 1", "int"}, {"(select z from nix)", "null"}, {"sum((select x from s))", "int"},
	} {
		s := "select " + one[0] + " as r from t"
		if _, l, f := x.query(t, queryOf(t, s)); f != (api.Fault{}) || shownNames(l) != "r "+one[1] {
			t.Errorf("%s: %v %s, want %s", s, f, shownNames(l), one[1])
		}
	}
}

// P7.1: types that do not fit, and functions that are not there.
func TestTypeFaults(t *testing.T) {
	x := call{world(t), "u", variables()}
	x.expectFaultsSelecting(t, []expected{
		{"^- b", api.ErrType, "-"}, {"^not a", api.ErrType, "not"}, {"a ^+ b", api.ErrType, "+"}, {"c ^- 1", api.ErrType, "-"}, {"a ^* 'x'", api.ErrType, "*"}, {"null ^/ true", api.ErrType, "/"}, {"b ^mod null", api.ErrType, "mod"}, {"a ^|| b", api.ErrType, "||"}, {"null ^|| 1", api.ErrType, "||"},
		{"a ^= b", api.ErrType, "="}, {"c ^<> 1", api.ErrType, "<>"}, {"b ^< c", api.ErrType, "<"}, {"a ^<= true", api.ErrType, "<="}, {"v ^> str", api.ErrType, ">"}, {"str ^>= v", api.ErrType, ">="}, {"c ^and a", api.ErrType, "and"}, {"'x' ^or c", api.ErrType, "or"}, {"a ^like 'x'", api.ErrType, "like"}, {"b not ^like a", api.ErrType, "like"},
		{"a in (1, ^b)", api.ErrType, "b"}, {"null in (null, 1, ^'x', c)", api.ErrType, ""}, {"c in (^1)", api.ErrType, ""}, {"a between 1 and ^b", api.ErrType, "b"}, {"null between b and ^1", api.ErrType, ""}, {"a not between ^c and true", api.ErrType, "c"},
		{"case when ^a then 1 end", api.ErrType, "a"}, {"case when c then 1 when ^b then 2 end", api.ErrType, "b"}, {"case when c then 1 when ^2 then 'x' end", api.ErrType, ""}, {"case when c then a else ^b end", api.ErrType, "b"}, {"case when c then null when c then 1 else ^c end", api.ErrType, "c"}, {"case when c then 1 when c then ^upper(b) else 'x' end", api.ErrType, "upper"},
		{"case when c then 1 else a ^in (1) end", api.ErrType, ""}, {"case when c then 1 else a ^not in (1) end", api.ErrType, ""}, {"case when c then 1 else a ^between 1 and 2 end", api.ErrType, ""}, {"case when c then 1 else a ^not between 1 and 2 end", api.ErrType, ""}, {"case when c then 1 else a ^is null end", api.ErrType, ""}, {"case when c then 1 else a ^is not null end", api.ErrType, ""},
		{"case when c then 1 else ^(select y from s) end", api.ErrType, ""}, {"case when c then 1 else ^exists (select y from s) end", api.ErrType, ""}, {"case when c then 'x' else ^count(*) end", api.ErrType, "count"}, {"case when c then 1 else ^case when c then 'x' end end", api.ErrType, ""},
		{"^abs(b)", api.ErrType, "abs"}, {"^abs()", api.ErrCount, "abs"}, {"^abs(a, b)", api.ErrCount, "abs"}, {"^length(1)", api.ErrType, "length"}, {"^substr(b, 1)", api.ErrCount, "substr"}, {"^substr(b, 1, b)", api.ErrType, "substr"}, {"^nvl(a, b)", api.ErrType, "nvl"}, {"^least(a)", api.ErrCount, "least"}, {"^to_int(a)", api.ErrType, "to_int"},
		{"^none(a)", api.ErrName, "none"}, {"^none()", api.ErrName, "none"}, {"^u.abs(a)", api.ErrName, "u.abs"}, {"^p(a)", api.ErrName, "p"}, {"^pack.n(1)", api.ErrName, "pack.n"}, {"^u.pack.n()", api.ErrName, "u.pack.n"}, {"^t.sum(a)", api.ErrName, "t.sum"}, {"^a(1)", api.ErrName, "a"},
		{"^sum(b)", api.ErrType, "sum"}, {"^sum(c)", api.ErrType, "sum"}, {"^count()", api.ErrCount, "count"}, {"^count(a, b)", api.ErrCount, "count"}, {"^min()", api.ErrCount, "min"}, {"^max(a, 1)", api.ErrCount, "max"},
		{"^c%found", api.ErrKind, "c"}, {"1 + ^sql%rowcount", api.ErrKind, "sql"},
		{"a ^+ (b || str)", api.ErrType, "+"}, {"(a in (1, ^b)) and zzz", api.ErrType, "b"},
	})
	x.expectFaults(t, []expected{
		{"select 1 from t where a = 1 order by ^- b", api.ErrType, "-"},
		{"select 1 from t group by ^upper(a)", api.ErrType, "upper"},
		{"select 1 from t where a = 1 ^and a", api.ErrType, "and"},
	})
}

// P7.1: the Kids first, from the left, then what has them.
func TestKidsFirst(t *testing.T) {
	x := call{world(t), "u", nil}
	x.expectFaultsSelecting(t, []expected{
		{"'x' + ^y", api.ErrName, "y"}, {"^y + z", api.ErrName, "y"}, {"('x' ^+ 1) + y", api.ErrType, "+"}, {"a in ('x', ^y)", api.ErrName, "y"}, {"case when 1 then ^y end", api.ErrName, "y"}, {"case when c then 1 else 'x' ^+ 1 end", api.ErrType, "+"},
		{"none(^y)", api.ErrName, "y"}, {"none(1, ^y)", api.ErrName, "y"}, {"abs(1, ^y)", api.ErrName, "y"}, {"abs('x', ^y)", api.ErrName, "y"}, {"sum(1, ^y)", api.ErrName, "y"}, {"case when ^1 then 'x' else 2 end", api.ErrType, ""}, {"case when c then 'x' when ^1 then 2 end", api.ErrType, ""},
		{"a between ^'x' and c", api.ErrType, ""}, {"(select ^y, z from t)", api.ErrName, "y"}, {"^(select a, b from t) + y", api.ErrCount, ""}, {"count(^(select a, b from t), 2)", api.ErrCount, ""},
	})
}

// P7.1: queries within expressions.
func TestInnerQueries(t *testing.T) {
	x := call{world(t), "u", nil}
	x.expectFaults(t, []expected{
		{"select ^(select a, b from t) from t", api.ErrCount, ""}, {"select 1 from t where a = ^(select * from t)", api.ErrCount, ""}, {"select 1 from t where a = 1 and c in (^(select a, b from t), b)", api.ErrCount, ""},
		{"select 1 from t where a ^= (select b from t)", api.ErrType, "="}, {"select 1 from t where ^(select b from t)", api.ErrType, ""}, {"select 1 from t where exists (select a from t where ^b)", api.ErrType, "b"},
		{"select 1 from t where exists (select ^a from t group by b)", api.ErrGroup, "a"}, {"select 1 from t where exists (select distinct a from t order by ^b)", api.ErrKind, "b"},
	})
	x.expectQuery(t, "select (select * from one) as r from t", "select (select * @0.0.0 k from u.one one) r from u.t t", "r int")
	x.expectQuery(t, "select exists (select * from t) as r from t", "select exists (select * @0.0.0 a, @0.0.1 b, @0.0.2 c from u.t t) r from u.t t", "r bool")
}

// nest returns n queries within each other, of which the innermost one has a place for what is within it; ^ marks the place where a query more would begin.
func nest(n int, inner string) string {
	if n == 0 {
		return inner
	}
	return "(select k from one where k = " + nest(n-1, inner) + ")"
}

// P7.1: at most 5 queries within each other.
func TestDeep(t *testing.T) {
	c := after(t, world(t), "u: create view deep as select k from one where k = "+nest(4, "1")+";", "u: create view deeper as select k from one where k = "+nest(5, "1")+";")
	x := call{c, "u", nil}
	for n := range 5 {
		if _, _, f := x.query(t, queryOf(t, "select k from one where k = "+nest(n, "k"))); f != (api.Fault{}) {
			t.Error(n, f)
		}
		if _, _, f := x.query(t, queryOf(t, "select k from deep where k = "+nest(n, "(select k from one)"))); (f == (api.Fault{})) != (n < 4) {
			t.Error(n, f)
		}
	}
	x.expectFault(t, "select k from one where k = "+nest(4, "^(select k from one)"), api.ErrDeep, "")
	x.expectFault(t, "select k from one where k = "+nest(4, "k + ^(select zzz from none)"), api.ErrDeep, "")
	x.expectFault(t, "select k from one where k = "+nest(4, "case when ^exists (select k from one) then zzz end"), api.ErrDeep, "")
	x.expectFault(t, "select k from one where k = "+nest(4, "^zzz + (select k from one)"), api.ErrName, "zzz")
	x.expectFault(t, "select "+nest(3, "(select k + ^(select "+nest(3, "k")+" from one) from one)")+" from one", api.ErrDeep, "")
	x.expectFault(t, "select k from ^deeper", api.ErrBad, "deeper")
	x.expectQuery(t, "select k from deep", "select k@0.0.0 from u.deep deep", "k int")
	for _, s := range []string{"update one set k = ", "delete from one where k = ", "insert into one values ("} {
		end := strings.Repeat(")", strings.Count(s, "("))
		if _, f := x.change(t, changeOf(t, s+nest(5, "1")+end)); f != (api.Fault{}) {
			t.Error(s, f)
		}
		x.expectChangeFault(t, s+nest(5, "^(select 1 from one)")+end, api.ErrDeep, "")
	}
	if _, f := x.change(t, changeOf(t, "insert into one select k from one where k = "+nest(4, "1"))); f != (api.Fault{}) {
		t.Error(f)
	}
	x.expectChangeFault(t, "insert into one select k from one where k = "+nest(4, "^(select 1 from one)"), api.ErrDeep, "")
}

// P7.1: where aggregates stand.
func TestAggregates(t *testing.T) {
	x := call{world(t), "u", nil}
	x.expectFaults(t, []expected{
		{"select 1 from t where ^count(*) > 1", api.ErrGroup, "count"}, {"select 1 from t where abs(^sum(a)) = 1", api.ErrGroup, "sum"}, {"select 1 from t group by ^count(*)", api.ErrGroup, "count"}, {"select 1 from t group by a, a + ^min(a)", api.ErrGroup, "min"},
		{"select sum(^count(*)) from t", api.ErrGroup, "count"}, {"select max(a + ^sum(a)) from t", api.ErrGroup, "sum"}, {"select 1 from t order by count(^min(a))", api.ErrGroup, "min"}, {"select 1 from t having sum(abs(^max(a))) = 1", api.ErrGroup, "max"},
		{"select sum(^sum(a, b)) from t", api.ErrGroup, "sum"}, {"select sum(^sum(b)) from t", api.ErrGroup, "sum"}, {"select sum(sum(^z)) from t", api.ErrName, "z"}, {"select 1 from t where ^sum(a, b) = 1", api.ErrGroup, "sum"}, {"select 1 from t where sum(^zzz) = 1", api.ErrName, "zzz"},
		{"select (select 1 from s where ^sum(a) = 1) from t", api.ErrGroup, "sum"}, {"select sum((select sum(^min(x)) from s)) from t", api.ErrGroup, "min"},
	})
	for _, one := range [][3]string{
		{"select count(a) from t", "select count(a@0.0.0) from u.t t", " int"},
		{"select 1 from t where a = (select max(x) from s)", "select 1 from u.t t where =(a@0.0.0, (select max(x@0.0.1) from u.s s))", " int"},
		{"select 1 from t group by (select max(x) from s)", "select 1 from u.t t group by (select max(x@0.0.1) from u.s s)", " int"},
		{"select sum((select count(*) from s)) from t", "select sum((select count(*) from u.s s)) from u.t t", " int"},
		{"select sum((select max(t.a) from s)) from t", "select sum((select max(t.a@1.0.0) from u.s s)) from u.t t", " int"},
		{"select a from t order by (select count(*) from s), b", "select a@0.0.0 from u.t t order by (select count(*) from u.s s), b@0.0.1", "a int"},
	} {
		x.expectQuery(t, one[0], one[1], one[2])
	}
}

// P7.1: columns and paths with the names of aggregates and functions are none.
func TestNamesOfAggregates(t *testing.T) {
	x := call{after(t, world(t), "u: create table odd (sum int, max text, abs bool);"), "u", nil}
	x.expectQuery(t, "select sum, odd.max from odd where sum = 1 and abs order by max for update", "select sum@0.0.0, odd.max@0.0.1 from u.odd odd where and(=(sum@0.0.0, 1), abs@0.0.2) order by max@0.0.1 for update", "sum int, max text")
	x.expectQuery(t, "select sum(sum), max(max) from odd where sum = abs(sum)", "select sum(sum@0.0.0), max(max@0.0.1) from u.odd odd where =(sum@0.0.0, abs(sum@0.0.0))", " int,  text")
	x.expectFault(t, "select ^sum from odd group by max", api.ErrGroup, "sum")
	x.expectFault(t, "select 1 from odd where ^sum.abs(1) = 1", api.ErrName, "sum.abs")
	x.expectFault(t, "select ^max.max(sum) from odd", api.ErrName, "max.max")
	x.expectFault(t, "select sum(^sum.sum(1)) from odd", api.ErrName, "sum.sum")
}

// P7.1: what is not the same in a group.
func TestGroups(t *testing.T) {
	x := call{world(t), "u", variables()}
	x.expectFaults(t, []expected{
		{"select a, ^b from t group by a", api.ErrGroup, "b"}, {"select ^a from t having true", api.ErrGroup, "a"}, {"select count(*), ^a from t", api.ErrGroup, "a"}, {"select ^a from t order by count(*)", api.ErrGroup, "a"}, {"select count(*) from t order by ^a", api.ErrGroup, "a"}, {"select count(*) from t having ^c", api.ErrGroup, "c"},
		{"select ^t.a from t group by a", api.ErrGroup, "t.a"}, {"select ^a from t group by t.a", api.ErrGroup, "a"}, {"select ^a from t group by a + 1", api.ErrGroup, "a"}, {"select a + length(^b) from t group by a", api.ErrGroup, "b"}, {"select 1 + ^a from t group by a + 1", api.ErrGroup, "a"},
		{"select count(*) + ^a from t", api.ErrGroup, "a"}, {"select case when count(*) = 1 then t.a else ^x end from t, s group by t.a", api.ErrGroup, "x"}, {"select upper(b), ^b from t group by upper(b)", api.ErrGroup, "b"}, {"select a from t group by a order by a, ^b = 'x', c", api.ErrGroup, "b"},
		{"select (select max(x) from s where x = ^t.a) from t group by b", api.ErrGroup, "t.a"}, {"select a, (select max(x) from s where ^t.b = y) from t group by a", api.ErrGroup, "t.b"}, {"select a, (select ^b from s) from t group by a", api.ErrGroup, "b"}, {"select a, (select max(^b) from s) from t group by a", api.ErrGroup, "b"},
		{"select a, (select 1 from s order by ^b) from t group by a", api.ErrGroup, "b"}, {"select a, (select 1 from s group by ^b) from t group by a", api.ErrGroup, "b"}, {"select a, (select 1 from s having ^c) from t group by a", api.ErrGroup, "c"}, {"select a, (select 1 from s where exists (select 1 from one where y = ^b)) from t group by a", api.ErrGroup, "b"},
		{"select c, (select 1 from one where k = ^a) from t group by c, a", api.ErrGroup, "a"}, {"select c from t group by c having exists (select 1 from one where k = ^a)", api.ErrGroup, "a"},
		{"select b, (select 1 from s where x = ^t.a) from t group by t.a, b", api.ErrGroup, "t.a"},
	})
	for _, one := range [][3]string{
		{"select a, count(*), b || 'x' from t group by a, b having max(c) or a = 1 order by b, sum(a) desc", "select a@0.0.0, count(*), ||(b@0.0.1, 'x') from u.t t group by a@0.0.0, b@0.0.1 having or(max(c@0.0.2), =(a@0.0.0, 1)) order by b@0.0.1, sum(a@0.0.0) desc", "a int,  int,  text"},
		{"select a + 1, (a + 1) * 2 from t group by a + 1", "select +(a@0.0.0, 1), *(+(a@0.0.0, 1), 2) from u.t t group by +(a@0.0.0, 1)", " int,  int"},
		{"select upper(b) from t group by upper(b)", "select upper(b@0.0.1) from u.t t group by upper(b@0.0.1)", " text"},
		{"select v, 1, null from t group by a", "select v$0, 1, null from u.t t group by a@0.0.0", "v int,  int,  null"},
		{"select count(*) from t where b = 'x'", "select count(*) from u.t t where =(b@0.0.1, 'x')", " int"},
		{"select 1 from t having count(b) > 1", "select 1 from u.t t having >(count(b@0.0.1), 1)", " int"},
		{"select (select b from s where x = t.a) from t where c", "select (select b@1.0.1 from u.s s where =(x@0.0.1, t.a@1.0.0)) from u.t t where c@0.0.2", " text"},
		{"select a, (select max(x) from s where y = 'x') from t group by a", "select a@0.0.0, (select max(x@0.0.1) from u.s s where =(y@0.0.2, 'x')) from u.t t group by a@0.0.0", "a int,  int"},
		{"select (select b from one) from t group by (select b from one)", "select (select b@1.0.1 from u.one one) from u.t t group by (select b@1.0.1 from u.one one)", " text"},
		{"select max((select b from one)) from t group by a", "select max((select b@1.0.1 from u.one one)) from u.t t group by a@0.0.0", " text"},
		{"select a from t where (select count(*) from one where k = a) = 1", "select a@0.0.0 from u.t t where =((select count(*) from u.one one where =(k@0.0.0, a@1.0.0)), 1)", "a int"},
		{"select 1 from t where exists (select a, count(*) from one)", "select 1 from u.t t where exists (select a@1.0.0, count(*) from u.one one)", " int"},
		{"select a from t where exists (select t.b, k from one group by k having t.c order by t.a)", "select a@0.0.0 from u.t t where exists (select t.b@1.0.1, k@0.0.0 from u.one one group by k@0.0.0 having t.c@1.0.2 order by t.a@1.0.0)", "a int"},
	} {
		x.expectQuery(t, one[0], one[1], one[2])
	}
}
