package query_test

import (
	"maps"
	"slices"

	"justiciar/api"
)

// plain returns the query select a from t.
func plain() api.Query { return api.Query{List: items("a"), From: from("t")} }

// with returns the query select a from t with a change.
func with(change func(q *api.Query)) api.Query {
	q := plain()
	change(&q)
	return q
}

// rich returns a query that has all that one may have.
func rich() api.Query {
	return api.Query{
		Distinct: true,
		List:     []api.Item{{Expr: ex("a or b"), As: "b"}, {Expr: ex("x.c")}, {Expr: ex("(select max(a) from v.w)"), As: "d"}},
		From:     []api.Source{{Path: path("t"), As: "x"}, asOf("u.v", "7 - d", "y"), asOf("w", "(select e from z)", ""), {Path: path("t")}},
		Where:    exs("x.a = :new.a and exists (select * from u.z)"),
		Group:    exs("f", "g is null"),
		Having:   exs("count(*) > 2"),
		Order:    []api.Order{{Expr: ex("h"), Desc: true}, {Expr: ex("- i")}},
		Lock:     true,
	}
}

const (
	richText  = "select distinct a or b as b , x . c , ( select max ( a ) from v . w ) as d from t x , u . v as of ( 7 - d ) y , w as of ( select e from z ) , t where ( x . a = : new . a ) and exists ( select * from u . z ) group by f , g is null having count ( * ) > 2 order by h desc , - i for update"
	richPaths = "v.w t u.v w z u.z"
)

// richInner returns the rich query as it may stand within something else, and its string.
func richInner() (api.Query, string) {
	q := rich()
	q.Lock = false
	return q, richText[:len(richText)-len(" for update")]
}

// querySamples returns queries of all kinds.
func querySamples() []sample[api.Query] {
	l := []sample[api.Query]{
		{"select a from t", plain(), "select a from t", "t"},
		{"select*from u.t", api.Query{Star: true, From: from("u.t")}, "select * from u . t", "u.t"},
		{"select distinct * from t,u,t", api.Query{Distinct: true, Star: true, From: from("t", "u", "t")}, "select distinct * from t , u , t", "t u"},
		{"select a, b as c from t x, u.v as of 7 y where x.a = 1 order by b desc for update", api.Query{List: []api.Item{{Expr: ex("a")}, {Expr: ex("b"), As: "c"}}, From: []api.Source{{Path: path("t"), As: "x"}, asOf("u.v", "7", "y")}, Where: exs("x.a = 1"), Order: []api.Order{{Expr: ex("b"), Desc: true}}, Lock: true}, "select a , b as c from t x , u . v as of 7 y where x . a = 1 order by b desc for update", "t u.v"},
		{richText, rich(), richText, richPaths},
		{"select a from t where a or not b", with(func(q *api.Query) { q.Where = exs("a or not b") }), "select a from t where a or ( not b )", "t"},
		{"select a from t group by a, b is null", with(func(q *api.Query) { q.Group = exs("a", "b is null") }), "select a from t group by a , b is null", "t"},
		{"select a from t having sum(a) > 1", with(func(q *api.Query) { q.Having = exs("sum(a) > 1") }), "select a from t having sum ( a ) > 1", "t"},
		{"select a from t order by a, 2 desc, -a", with(func(q *api.Query) {
			q.Order = orders("a", "2", "-a")
			q.Order[1].Desc = true
		}), "select a from t order by a , 2 desc , - a", "t"},
		{"select a from t for update", with(func(q *api.Query) { q.Lock = true }), "select a from t for update", "t"},
		{"select a from t x for update", with(func(q *api.Query) { q.From[0].As, q.Lock = "x", true }), "select a from t x for update", "t"},
		{"select a from t where b group by c order by d", with(func(q *api.Query) { q.Where, q.Group, q.Order = exs("b"), exs("c"), orders("d") }), "select a from t where b group by c order by d", "t"},
		{"select a from t group by c having d for update", with(func(q *api.Query) { q.Group, q.Having, q.Lock = exs("c"), exs("d"), true }), "select a from t group by c having d for update", "t"},
		{"select a, 7, 'it''s', null, true, :old.a, -b, not b, b + c, b and c, b is not null, b in (1, 2), b not between 1 and 2, b not like 'x%', f(), g(a, b or c), count(*), count(a), x%found, case when a then b else c end", api.Query{List: items("a", "7", "'it''s'", "null", "true", ":old.a", "-b", "not b", "b + c", "b and c", "b is not null", "b in (1, 2)", "b not between 1 and 2", "b not like 'x%'", "f()", "g(a, b or c)", "count(*)", "count(a)", "x%found", "case when a then b else c end"), From: from("t")}, "", "t"},
		{"select (select a from u as of (select b from v.w)) as c from t where exists (select * from t, u where a in ((select a from v)))", api.Query{List: []api.Item{{Expr: ex("(select a from u as of (select b from v.w))"), As: "c"}}, From: from("t"), Where: exs("exists (select * from t, u where a in ((select a from v)))")}, "select ( select a from u as of ( select b from v . w ) ) as c from t where exists ( select * from t , u where a in ( ( select a from v ) ) )", "u v.w t v"},
	}
	long := &l[len(l)-2]
	long.text += " from t"
	long.want = "select a , 7 , 'it''s' , null , true , : old . a , - b , not b , b + c , b and c , b is not null , b in ( 1 , 2 ) , b not between 1 and 2 , not ( b like 'x%' ) , f ( ) , g ( a , b or c ) , count ( * ) , count ( a ) , x % found , case when a then b else c end from t"
	for _, time := range slices.Sorted(maps.Keys(times())) {
		want := times()[time]
		for _, name := range []string{"", "x"} {
			behind := ""
			if name != "" {
				behind = " " + name
			}
			l = append(l, sample[api.Query]{"select a from t as of " + time + behind + ", u where b", api.Query{List: items("a"), From: []api.Source{asOf("t", time, name), {Path: path("u")}}, Where: exs("b")}, "select a from t as of " + want + behind + " , u where b", "t u"})
		}
	}
	return l
}

// times returns expressions as a source's time, with their strings there.
func times() map[string]string {
	return map[string]string{
		"7": "7", "a.b": "a . b", ":new.a": ": new . a", "'x'": "'x'", "null": "null", "f(a, not b)": "f ( a , not b )", "count(*)": "count ( * )", "sql%rowcount": "sql % rowcount", "case when a then not b end": "case when a then not b end",
		"(a)": "a", "-a": "( - a )", "(not a)": "( not a )", "a + 1": "( a + 1 )", "a || b * c": "( a || ( b * c ) )", "(a = b)": "( a = b )", "(a or b)": "( a or b )", "(a is null)": "( a is null )", "(a is not null)": "( a is not null )", "(a in (1, b or c))": "( a in ( 1 , b or c ) )", "(a not between 1 and 2)": "( a not between 1 and 2 )", "(a not like b)": "( not ( a like b ) )",
	}
}

// changeSamples returns changes of all kinds.
func changeSamples() []sample[api.Change] {
	inner, innerText := richInner()
	change := func(op api.ChangeOp, p string, set func(x *api.Change)) api.Change {
		x := api.Change{Op: op, Path: path(p)}
		if set != nil {
			set(&x)
		}
		return x
	}
	return []sample[api.Change]{
		{"insert into t values (1)", change(api.CInsert, "t", func(x *api.Change) { x.Vals = exs("1") }), "insert into t values ( 1 )", "t"},
		{"insert into u.t(a)values(-b)", change(api.CInsert, "u.t", func(x *api.Change) { x.Cols, x.Vals = path("a"), exs("-b") }), "insert into u . t ( a ) values ( - b )", "u.t"},
		{"insert into t (a, b) values (c or d, not e, (select a from u, t), f(g))", change(api.CInsert, "t", func(x *api.Change) {
			x.Cols, x.Vals = path("a.b"), exs("c or d", "not e", "(select a from u, t)", "f(g)")
		}), "insert into t ( a , b ) values ( c or d , not e , ( select a from u , t ) , f ( g ) )", "t u"},
		{"insert into t (a, a) values (null)", change(api.CInsert, "t", func(x *api.Change) { x.Cols, x.Vals = path("a.a"), exs("null") }), "insert into t ( a , a ) values ( null )", "t"},
		{"insert into t select a from t", change(api.CInsert, "t", func(x *api.Change) { x.Query = []api.Query{plain()} }), "insert into t select a from t", "t"},
		{"insert into u.t (a, b, c) " + innerText, change(api.CInsert, "u.t", func(x *api.Change) { x.Cols, x.Query = path("a.b.c"), []api.Query{inner} }), "insert into u . t ( a , b , c ) " + innerText, "u.t " + richPaths},
		{"insert into t select*from u order by a desc", change(api.CInsert, "t", func(x *api.Change) {
			x.Query = []api.Query{{Star: true, From: from("u"), Order: []api.Order{{Expr: ex("a"), Desc: true}}}}
		}), "insert into t select * from u order by a desc", "t u"},
		{"update t set a = 1", change(api.CUpdate, "t", func(x *api.Change) { x.Cols, x.Vals = path("a"), exs("1") }), "update t set a = 1", "t"},
		{"update t set a = a + 1, b = 'x' where a in (1, 2)", change(api.CUpdate, "t", func(x *api.Change) {
			x.Cols, x.Vals, x.Where = path("a.b"), exs("a + 1", "'x'"), exs("a in (1, 2)")
		}), "update t set a = a + 1 , b = 'x' where a in ( 1 , 2 )", "t"},
		{"update u.t set a=b=c,a=not d or e,f=(select max(a) from v.w where exists(select*from u.t))where a=(select b from t)", change(api.CUpdate, "u.t", func(x *api.Change) {
			x.Cols, x.Vals, x.Where = path("a.a.f"), exs("b = c", "not d or e", "(select max(a) from v.w where exists (select * from u.t))"), exs("a = (select b from t)")
		}), "update u . t set a = b = c , a = ( not d ) or e , f = ( select max ( a ) from v . w where exists ( select * from u . t ) ) where a = ( select b from t )", "u.t v.w t"},
		{"delete from t", change(api.CDelete, "t", nil), "delete from t", "t"},
		{"delete from u.t where a = 1 or not b", change(api.CDelete, "u.t", func(x *api.Change) { x.Where = exs("a = 1 or not b") }), "delete from u . t where ( a = 1 ) or ( not b )", "u.t"},
		{"delete from t where exists (" + innerText + ")", change(api.CDelete, "t", func(x *api.Change) {
			x.Where = []api.Expr{{Op: api.EExists, Query: []api.Query{inner}}}
		}), "delete from t where exists ( " + innerText + " )", "t v.w u.v w z u.z"},
	}
}
