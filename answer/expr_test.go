package answer_test

import (
	"testing"

	"justiciar/api"
)

// TestExpressions: P9.1, what expressions are calculated to.
func TestExpressions(t *testing.T) {
	x := standard(t)
	for s, want := range map[string]string{
		"17": "17", "- 17": "-17", "'it''s'": "'it''s'", "true": "true", "null": "null",
		"a": "2", "t.b": "'y'", "c": "false", "x": "'x'", ":new.a": "2", "nil": "null", "yes": "true",
		"a + 1": "3", "a - 3": "-1", "a * a": "4", "7 / a": "3", "7 mod a": "1", "b || 'z' || x": "'yzx'", "- a": "-2", "- - a": "2", "a + nil": "null",
		"a = 2": "true", "a <> 2": "false", "b < 'z'": "true", "b >= 'z'": "false", "c = false": "true", "b like '_'": "true", "b not like '%'": "false", "a = nil": "null",
		"not c": "true", "not nil = 1": "null", "c and yes": "false", "yes and yes": "true", "c or yes": "true", "c or c": "false",
		"nil = 1 and c": "false", "nil = 1 and yes": "null", "nil = 1 or yes": "true", "nil = 1 or c": "null", "yes and nil = 1": "null", "c or nil = 1": "null",
		"a is null": "false", "a is not null": "true", "nil is null": "true", "nil is not null": "false", "(a = nil) is null": "true",
		"a in (1, 2)": "true", "a in (1, 3)": "false", "a not in (1, 2)": "false", "a not in (1, 3)": "true",
		"a in (nil, 2)": "true", "a in (nil, 1)": "null", "a not in (nil, 1)": "null", "a not in (nil, 2)": "false", "nil in (1, 2)": "null", "nil not in (1)": "null", "b in ('x', x, 'y')": "true",
		"a between 1 and 2": "true", "a between 3 and 4": "false", "a not between 1 and 2": "false", "a not between 3 and 4": "true", "a between nil and 1": "false", "a between nil and 5": "null", "a not between nil and 1": "true", "a between 2 and nil": "null",
		"case when c then 1 when a = 2 then 2 else 3 end": "2", "case when c then 1 end": "null", "case when c then 1 else 3 end": "3", "case when nil = 1 then 1 else 4 end": "4", "case when yes then nil else 4 end": "null", "case when c then 1 when yes then 5 end": "5",
		"abs(- a)": "2", "upper(b) || lower('Q')": "'Yq'", "substr('abc', a, 1)": "'b'", "nvl(nil, a)": "2", "nullif(a, 2)": "null", "least(a, 1)": "1", "greatest(a, nil)": "null", "to_text(a)": "'2'", "to_int('12')": "12", "length(b || b)": "2", "sign(- 4)": "-1",
		"(select d from s where s.a = t.a)": "20", "(select d from s where s.a = 9)": "null", "(select d from s where s.a = 5)": "null", "(select max(d) from s)": "20", "(select count(*) from none)": "0", "(select 1 from none)": "null",
		"exists (select 1 from s)": "true", "exists (select 1 from none)": "false", "not exists (select 1 from none)": "true", "exists (select null from s where s.a = t.a)": "true", "exists (select s.a from s where s.a = t.a + 1)": "false", "exists (select count(*) from none)": "true", "exists (select 1 from s group by a having a > 9)": "false",
		"(select s.a + t.a from s where s.d = (select max(d) from s y where y.a <> t.a))":                                                                 "3",
		"(select (select (select (select t.a + z.a from s z where z.a = y.a) from s y where y.a = v.a) from s v where v.a = w.a) from s w where w.a = 5)": "7",
	} {
		x.expect(t, [][2]string{{"select " + s + " from t where a = 2", want}})
	}
}

// TestNotCalculated: P9.1, what is not calculated has no error.
func TestNotCalculated(t *testing.T) {
	x := standard(t)
	for s, want := range map[string]string{
		"c and 1 / 0 = 1": "false", "yes or 1 / 0 = 1": "true", "c and 1 / 0 = 1 or yes": "true", "not (yes or 1 / 0 = 1)": "false", "c and (1 / 0 = 1 or yes)": "false",
		"case when yes then 1 when 1 / 0 = 1 then 2 end": "1", "case when yes then 1 else 1 / 0 end": "1", "case when c then 1 / 0 else 2 end": "2", "case when c then 1 / 0 when yes then 3 else 1 / 0 end": "3", "case when c then 1 / 0 end": "null",
		"a in (1, 2, 1 / 0)": "true", "a not in (2, 1 / 0)": "false", "a in (nil, 2, 1 / 0)": "true", "a in (2, (select a from s))": "true",
		"c and exists (select 1 / 0 from s)": "false", "yes or (select a from s) = 1": "true", "case when c then (select a from s) else 7 end": "7",
	} {
		x.expect(t, [][2]string{{"select " + s + " from t where a = 2", want}})
	}
	x.expectErrors(t, api.ErrZero,
		"select nil = 1 and 1 / 0 = 1 from s", "select nil = 1 or 1 / 0 = 1 from s", "select yes and 1 / 0 = 1 from s", "select 1 / 0 = 1 and false from s", "select 1 / 0 = 1 or true from s",
		"select case when 1 / 0 = 1 then 1 end from s", "select case when false then 1 else 1 / 0 end from s", "select case when nil = 1 then 1 when 1 / 0 = 1 then 2 end from s",
		"select 5 in (nil, 1 / 0) from s", "select nil in (1, 1 / 0) from s", "select 1 / 0 in (1) from s", "select 5 in (1 / 0, 5) from s",
		"select 1 between 2 and 1 / 0 from s", "select 1 between 1 / 0 and 0 from s", "select nvl(1, 1 / 0) from s", "select - (1 / 0) from s", "select 1 / 0 is null from s", "select nil + 1 / 0 from s", "select a mod (a - 5) from s",
		"select exists (select 1 / 0 from s) from t", "select exists (select 1 from s order by 1 / 0) from t", "select exists (select 1 from s group by a having 1 / 0 = 1) from t",
	)
	x.expectErrors(t, api.ErrRange, "select 1099511627776 + a from s", "select to_int(b) from t", "select to_int(b) + 1 / 0 from t", "select abs(to_int(b)) / 0 from t")
}

// TestMany: P9.1, a query as a value has one row at most.
func TestMany(t *testing.T) {
	x := standard(t)
	x.expectErrors(t, api.ErrMany,
		"select (select a from s) from t", "select a from t where a = (select a from s)", "select a from t where a = 1 and (select b from t z where z.a = t.a) = 'x'",
		"select (select 1 from s) from w.t", "select a from t order by (select s.a from s where s.a < 3)", "select (select b from t group by b) from s", "select (select distinct b from t) from s",
		"select a from s group by a having a = (select a from s)", "select sum((select z.a from s z where z.a <= s.a)) from s",
	)
	x.expect(t, [][2]string{{"select a, (select distinct b from t where t.a = s.a) from s", "1 'x' | 2 'y' | 5 null"}, {"select (select a from s) from none", ""}})
	x.expectErrors(t, api.ErrZero, "select (select 1 / (a - 5) from s) from t", "select 1 / (a - a), (select a from s) from s")
}

// TestGroups: P9.1, groups of rows, and what is calculated of them.
func TestGroups(t *testing.T) {
	x := standard(t)
	x.expect(t, [][2]string{
		{"select b, count(*) from t group by b", "'x' 3 | 'y' 1 | null 1"},
		{"select b, count(a), sum(a), min(a), max(a) from t group by b", "'x' 2 2 1 1 | 'y' 1 2 2 2 | null 1 3 3 3"},
		{"select a, c, count(*) from t group by a, c", "1 true 1 | 2 false 1 | null null 1 | 3 null 1 | 1 false 1"},
		{"select c from t group by c", "true | false | null"},
		{"select count(*) from t", "5"},
		{"select count(*), count(a), sum(a), min(b), max(b), count(c), max(c), min(c) from t", "5 4 7 'x' 'y' 3 true false"},
		{"select count(*), count(a), sum(a), min(e), max(e), 'k' from none", "0 0 null null null 'k'"},
		{"select count(*) from t where false", "0"},
		{"select count(*) from none group by a", ""},
		{"select 1 from none having true", "1"},
		{"select 1 from t having true", "1"},
		{"select 1 from t having count(*) = 5", "1"},
		{"select 1 from t having count(*) > 5", ""},
		{"select 1 from t having null", ""},
		{"select 1 from none having false", ""},
		{"select 'a' from t group by 1", "'a'"},
		{"select 'a' from none group by 1", ""},
		{"select b from t group by b having count(*) = 1", "'y' | null"},
		{"select b from t group by b having b = 'x'", "'x'"},
		{"select b from t group by b having max(a) > 1 order by b desc", "null | 'y'"},
		{"select a + 1 from t group by a + 1 order by a + 1", "2 | 3 | 4 | null"},
		{"select (a + 1) * 2, count(*) from t group by a + 1", "4 2 | 6 1 | null 1 | 8 1"},
		{"select a * 10 + count(*) from t group by a", "12 | 21 | null | 31"},
		{"select sum(a * a) + sum(1) from t", "20"},
		{"select sum(s.a * t.a), count(*) from t, s", "56 15"},
		{"select s.a, sum(t.a) from s, t where t.a <= s.a group by s.a order by sum(t.a) desc", "5 7 | 2 4 | 1 2"},
		{"select count(*) from t order by 1", "5"},
		{"select 1 from t order by count(*)", "1"},
		{"select case when count(*) > 0 then sum(a) / count(*) else 0 end from none", "0"},
		{"select case when count(*) > 0 then sum(a) / count(*) else 0 end from t", "1"},
		{"select count(*) > 9 and sum(1 / (a - 1)) > 0 from t", "false"},
		{"select count(*) in (5, sum(1 / (a - 1))) from t", "true"},
		{"select count(1 / 0) from none", "0"},
		{"select distinct count(*) from t group by a, b", "2 | 1"},
		{"select sum(case when c then 1 else 0 end), sum(case when c then 0 else 1 end) from t", "1 4"},
		{"select sum((select count(*) from s where s.a = t.a)) from t", "3"},
		{"select max((select max(s.d) from s where s.a <= t.a)), (select sum(a) from s) from t", "20 8"},
		{"select (select max(s.d) from s where s.a = t.a), count(*) from t group by (select max(s.d) from s where s.a = t.a)", "10 2 | 20 1 | null 2"},
		{"select a from t where a = (select count(*) from t z where z.b = t.b) group by a", ""},
		{"select a, (select count(*) from s where s.a > t.a) from t where a < 3", "1 2 | 2 1 | 1 2"},
		{"select (select sum(t.a) from s) from t where c", "3"},
		{"select (select count(t.a) from s), a from t", "3 1 | 3 2 | 0 null | 3 3 | 3 1"},
		{"select m, count(*) from counts group by m", "1 1"},
		{"select b, (select count(*) from s) from t group by b", "'x' 3 | 'y' 3 | null 3"},
	})
	x.expectErrors(t, api.ErrZero, "select sum(1 / (a - 1)) from t", "select b from t group by b, 1 / (a - 2)", "select count(*) from t having 1 / (count(*) - 5) = 1", "select 1 / count(*) from none", "select b, 1 / (count(*) - 1) from t group by b", "select sum(a) from t order by 1 / (count(*) - 5)", "select 1 / (max(a) - 3) from t", "select count(1 / (a - 3)) from t")
}

// TestSum: an aggregate's error is an error of the query.
func TestSum(t *testing.T) {
	x := standard(t).with(stored("u", "none", []int{1, 2, 3}, rowOf(api.MaxInt), rowOf(1), rowOf(-1)))
	x.expect(t, [][2]string{{"select sum(a) from none", "1099511627776"}, {"select sum(a), max(a), min(a) from none where a < 5", "0 1 -1"}})
	x.expectErrors(t, api.ErrRange, "select sum(a) from none where a > 0", "select sum(a), 1 / 0 from none where a > 0", "select a from none group by a having sum(a + a) > 0")
	x.expectErrors(t, api.ErrZero, "select 1 / 0, sum(a) from none where a > 0")
}
