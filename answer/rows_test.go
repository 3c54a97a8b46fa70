package answer_test

import (
	"strings"
	"testing"

	"justiciar/api"
)

// TestExample: the chapter's example.
func TestExample(t *testing.T) {
	x := call{c: after(t, users(t, "u"), "u: create table t (a int, b text);"), user: "u"}
	x.l = []api.Image{{Tables: []api.Stored{stored("u", "t", []int{1, 2, 3}, rowOf(1, "x"), rowOf(2, "y"), rowOf(3, "x"))}}}
	x.expect(t, [][2]string{{"select b, count(*), sum(a) from t group by b order by b desc", "'y' 1 2 | 'x' 2 4"}})
}

// TestSources: P9.1, the rows of sources and their combinations.
func TestSources(t *testing.T) {
	x := standard(t)
	x.expect(t, [][2]string{
		{"select * from t", "1 'x' true | 2 'y' false | null 'x' null | 3 null null | 1 'x' false"},
		{"select * from u.t", "1 'x' true | 2 'y' false | null 'x' null | 3 null null | 1 'x' false"},
		{"select * from w.t", "'w'"},
		{"select * from none", ""},
		{"select k, d from w.t, s", "'w' 10 | 'w' 20 | 'w' null"},
		{"select t.a, s.a from t, s where s.a < 3", "1 1 | 1 2 | 2 1 | 2 2 | null 1 | null 2 | 3 1 | 3 2 | 1 1 | 1 2"},
		{"select t.a, s.a from s, t where s.a < 3", "1 1 | 2 1 | null 1 | 3 1 | 1 1 | 1 2 | 2 2 | null 2 | 3 2 | 1 2"},
		{"select * from w.t, s, w.t z", "'w' 1 10 'w' | 'w' 2 20 'w' | 'w' 5 null 'w'"},
		{"select s.a from t, none, s", ""},
		{"select s.a from none, t, s", ""},
		{"select x.a, y.a, z.a from s x, s y, s z where x.a + y.a + z.a > 10", "1 5 5 | 2 5 5 | 5 1 5 | 5 2 5 | 5 5 1 | 5 5 2 | 5 5 5"},
		{"select 1, 'a', null from s", "1 'a' null | 1 'a' null | 1 'a' null"},
		{"select a from t for update", "1 | 2 | null | 3 | 1"},
	})
	x.user = "w"
	x.expect(t, [][2]string{{"select * from t", "'w'"}, {"select * from far", "1 'w' | 2 'w' | null 'w' | 3 'w' | 1 'w'"}, {"select a from u.t where a = 2", "2"}})
}

// TestViews: P9.1, rows of views are those of their queries, for their owners.
func TestViews(t *testing.T) {
	x := standard(t)
	x.expect(t, [][2]string{
		{"select * from v", "1 'x'"},
		{"select n from v where a = 1", "'x'"},
		{"select * from counts", "'x' 1"},
		{"select * from past", "1 'x' | 2 'y'"},
		{"select * from w.far z where a = 2", "2 'w'"},
		{"select * from nix", "null null | null 3 | null 2 | null 1 | null 1"},
		{"select a from nix where z is null and a < 3", "2 | 1 | 1"},
		{"select a from nix where z = 1", ""},
		{"select v.a, t.b from v, t where v.a = t.a", "1 'x' | 1 'x'"},
		{"select x.n, y.m from v x, counts y", "'x' 1"},
		{"select d from wide where b = 'y'", "10 | 20 | null"},
		{"select q from bad", "1 | 0 | null | 0 | 1"},
	})
	x.expectErrors(t, api.ErrZero, "select 1 from worse", "select 1 from none, worse", "select 1 from worse, none")
}

// TestImages: P9.1, which image a source reads.
func TestImages(t *testing.T) {
	x := standard(t)
	x.expect(t, [][2]string{
		{"select b from t as of 2", "'old'"},
		{"select b from t as of 3", "'old'"},
		{"select b from t as of 4", "'old'"},
		{"select b from t as of 5", "'x' | 'y'"},
		{"select b from t as of 6", "'x' | 'y'"},
		{"select b from t as of 7", "'x' | 'y' | 'x' | null | 'x'"},
		{"select b from t as of one + 1", "'old'"},
		{"select b from t as of :new.a", "'old'"},
		{"select b from t as of (case when yes then 2 else 1 / 0 end)", "'old'"},
		{"select * from s as of 2", ""},
		{"select * from s as of 5", "1 10"},
		{"select p.b, t.b from t as of 5 p, t where p.a = t.a", "'x' 'x' | 'x' 'x' | 'y' 'y'"},
		{"select t.b, p.b from t, t as of 2 p where p.a = t.a", "'x' 'old' | 'x' 'old'"},
		{"select * from v as of 2", "1 'old'"},
		{"select * from counts as of 2", "'old' 1"},
		{"select * from w.far as of 5", ""},
		{"select * from past as of 2", "1 'x' | 2 'y'"},
		{"select d from wide as of 5 where b = 'y'", "10"},
		{"select (select count(*) from t), (select count(*) from t as of 5), p.b from t as of 2 p", "5 2 'old'"},
		{"select b, (select count(*) from counts as of 2), (select count(*) from s) from v as of 2 p, past z", "'x' 1 3 | 'y' 1 3"},
		{"select p.n, z.b, (select n from counts as of 2), (select count(*) from s) from v as of 2 p, past z", "'old' 'x' 'old' 3 | 'old' 'y' 'old' 3"},
		{"select a from t where exists (select 1 from s as of 5 where s.a = t.a)", "1 | 1"},
	})
	x.expectErrors(t, api.ErrRange, "select 1 from t as of 8", "select 1 from t as of (- 1)", "select 1 from t as of nil", "select 1 from t as of null", "select 1 from none as of 8", "select 1 from v as of 8", "select 1 from t as of 8, t as of (1 / 0) z", "select 1 from worse, t as of 8", "select 1 from t where exists (select 1 from s as of 8)", "select (select a from s as of nil) from t")
	x.expectErrors(t, api.ErrOld, "select 1 from t as of 1", "select 1 from t as of 0", "select 1 from none as of 0", "select 1 from t as of 1, t as of 8 z", "select 1 from worse, t as of 1")
	x.expectErrors(t, api.ErrZero, "select 1 from t as of (1 / 0)", "select 1 from t as of (1 / 0), t as of 8 z", "select 1 from none as of (1 / 0)")
	x.l = x.l[2:]
	x.expectErrors(t, api.ErrOld, "select 1 from t as of 5", "select 1 from past", "select 1 from past as of 7")
	x.expect(t, [][2]string{{"select b from t as of 7 where a = 2", "'y'"}, {"select n from v as of 7", "'x'"}})
	x.l = []api.Image{{}}
	x.expect(t, [][2]string{{"select b from t as of 0", ""}, {"select count(*) from t", "0"}})
	x.expectErrors(t, api.ErrRange, "select 1 from t as of 1")
}

// TestInnerImage: a query within a view's query, as of a time, reads what the view does.
func TestInnerImage(t *testing.T) {
	x := standard(t)
	x.c = after(t, x.c, "u: create view inner_count as select b, (select count(*) from t) as n, (select count(*) from t as of 7) as m from t;", "u: create view upon as select n, m from inner_count as of 2;")
	x.expect(t, [][2]string{
		{"select n, m from inner_count as of 2", "1 5"},
		{"select n, m from inner_count as of 5", "2 5 | 2 5"},
		{"select n, m from inner_count where b = 'y'", "5 5"},
		{"select n, m, (select count(*) from t) from upon as of 5", "1 5 5"},
	})
}

// TestWhere: P9.1, in which order parts of Where are asked, and up to which.
func TestWhere(t *testing.T) {
	x := standard(t)
	x.expect(t, [][2]string{
		{"select b from t where a = 1", "'x' | 'x'"},
		{"select b from t where 1 = a and c", "'x'"},
		{"select a from t where b = x and a is null", "null"},
		{"select b from t where a = :new.a", "'y'"},
		{"select b from t where a = nil or a = null", ""},
		{"select a from t where c", "1"},
		{"select a from t where not c", "2 | 1"},
		{"select a from t where true", "1 | 2 | null | 3 | 1"},
		{"select a from t where null", ""},
		{"select a from t where a <> 2 and c is null", "3"},
		{"select a from t where 1 / (a - 2) >= 0 and a = 3", "3"},
		{"select a from t where 1 / (a - 2) >= 0 and (a is not null and 3 = a)", "3"},
		{"select a from t where a <> 2 and 1 / (a - 2) > 0", "3"},
		{"select a from t where null and 1 / 0 = 1", ""},
		{"select a from t where a < 0 and (1 / 0 = 1 and c)", ""},
		{"select a from t where (a > 5 and 1 / 0 = 1) and 1 / 0 = 1", ""},
		{"select a from t where 1 / 0 = 1 and a = nil", ""},
		{"select a from t where 1 / 0 = 1 and a = 1 and a = 2", ""},
		{"select t.a from t, s where 1 / (s.a - t.a) = 1 and t.a = 1 and s.a = 2", "1 | 1"},
		{"select a from t where exists (select 1 from s where 1 / (d - 10) = 0 and s.a = 2)", "1 | 2 | null | 3 | 1"},
	})
	x.expectErrors(t, api.ErrZero,
		"select a from t where 1 / (a - 2) >= 0",
		"select a from t where 1 / (a - 2) > 0 and a <> 2",
		"select a from t where 1 / (a - 2) > 0 and a = 2",
		"select a from t where 1 / 0 = 1 and a <> a",
		"select a from t where (null and 1 / 0 = 1) is null",
		"select t.a from t, s where t.a = 1 and 1 / (s.a - t.a) = 1 and s.d = 10",
	)
}

// TestDistinct: P9.1, with Distinct only the first row of several that are the same stays.
func TestDistinct(t *testing.T) {
	x := standard(t).with(stored("u", "none", []int{1, 2, 3, 4, 5, 6, 7}, rowOf(1, "a"), rowOf(nil, "1"), rowOf(1, "a"), rowOf(nil, nil), rowOf(), rowOf(1), rowOf(2, "null")))
	x.expect(t, [][2]string{
		{"select distinct b from t", "'x' | 'y' | null"},
		{"select distinct a from t", "1 | 2 | null | 3"},
		{"select distinct a, b from t", "1 'x' | 2 'y' | null 'x' | 3 null"},
		{"select distinct b from t order by b", "'x' | 'y' | null"},
		{"select distinct a from t order by a desc", "null | 3 | 2 | 1"},
		{"select distinct a, b from t order by b desc, a", "3 null | 2 'y' | 1 'x' | null 'x'"},
		{"select distinct * from none", "1 'a' | null '1' | null null | 1 null | 2 'null'"},
		{"select distinct e, a from none", "'a' 1 | '1' null | null null | null 1 | 'null' 2"},
		{"select distinct 1, 'a' from t", "1 'a'"},
		{"select distinct count(*) from t group by b", "3 | 1"},
		{"select distinct b, ',' from t where b is not null", "'x' ',' | 'y' ','"},
		{"select distinct a from none where a > 5", ""},
		{"select t.a from t where t.a in ((select distinct 1 from s), (select distinct a - a + 3 from s))", "1 | 3 | 1"},
	})
	x = x.with(stored("u", "none", []int{1, 2, 3}, rowOf(1, "a','b"), rowOf(1, "a"), rowOf(1, "a','b")))
	x.expect(t, [][2]string{{"select distinct e, 'b' from none", "'a'',''b' 'b' | 'a' 'b'"}, {"select e, count(*) from none group by e, 'b'", "'a'',''b' 2 | 'a' 1"}})
	x = x.with(stored("u", "s", []int{1, 2, 3, 4}, rowOf(1, 12), rowOf(11, 2), rowOf(1, 12), rowOf(112, nil)))
	x.expect(t, [][2]string{{"select distinct a, d from s", "1 12 | 11 2 | 112 null"}, {"select count(*) from s group by a, d", "2 | 1 | 1"}})
}

// TestOrder: P9.1, by what rows are ordered; those that are equal stay in their order.
func TestOrder(t *testing.T) {
	x := standard(t)
	x.expect(t, [][2]string{
		{"select a, c from t order by a", "1 true | 1 false | 2 false | 3 null | null null"},
		{"select a, c from t order by a desc", "null null | 3 null | 2 false | 1 true | 1 false"},
		{"select a, b, c from t order by b, a", "1 'x' true | 1 'x' false | null 'x' null | 2 'y' false | 3 null null"},
		{"select a, b, c from t order by b desc, a desc, c", "3 null null | 2 'y' false | null 'x' null | 1 'x' false | 1 'x' true"},
		{"select a from t order by c, a desc", "2 | 1 | 1 | null | 3"},
		{"select b from t order by - a", "null | 'y' | 'x' | 'x' | 'x'"},
		{"select a from t order by 1", "1 | 2 | null | 3 | 1"},
		{"select a from t order by null desc", "1 | 2 | null | 3 | 1"},
		{"select t.a, s.d from t, s where t.c is not null order by s.d desc, t.a", "1 null | 1 null | 2 null | 1 20 | 1 20 | 2 20 | 1 10 | 1 10 | 2 10"},
		{"select b, count(*) from t group by b order by count(*), b desc", "null 1 | 'y' 1 | 'x' 3"},
		{"select b from t where c order by (select max(a) from s)", "'x'"},
	})
	x.expectErrors(t, api.ErrZero, "select a from t order by 1 / 0", "select a from t order by a, 1 / (a - 3)")
}

// TestStages: which error of several is the first one that is found.
func TestStages(t *testing.T) {
	x := standard(t)
	long := "'" + strings.Repeat("a", 150) + "'"
	rangeAt := func(n string) string {
		return "length(" + long + " || case when a = " + n + " then " + long + " else '' end)"
	}
	zeroAt := func(n string) string { return "1 / (a - " + n + ")" }
	x.expectErrors(t, api.ErrZero,
		"select "+rangeAt("1")+" from t where "+zeroAt("3")+" is null or true", // Where of all rows ahead of List
		"select "+rangeAt("2")+" from t order by "+zeroAt("1"),                 // List and Order of each row
		"select "+zeroAt("1")+", "+rangeAt("1")+" from t",                      // List from the left
		"select a from t order by "+zeroAt("1")+", "+rangeAt("1"),
		"select "+rangeAt("1")+" from t group by a, "+zeroAt("3"),                      // Group of all rows ahead of List
		"select "+rangeAt("2")+" from t group by a having "+zeroAt("1")+" is null",     // Having ahead of List
		"select "+zeroAt("1")+" from t group by a having "+rangeAt("2")+" is not null", // group by group
		"select "+rangeAt("2")+" from t group by a order by "+zeroAt("1"),              // group by group
		"select "+rangeAt("1")+" from t, worse",                                        // sources ahead of Where
	)
	x.expectErrors(t, api.ErrRange,
		"select "+zeroAt("2")+" from t order by "+rangeAt("1"),
		"select "+rangeAt("1")+", "+zeroAt("1")+" from t",
		"select "+zeroAt("1")+" from t where "+rangeAt("3")+" > 0",
		"select "+zeroAt("1")+" from t group by a having "+rangeAt("1")+" > 0",
	)
}
