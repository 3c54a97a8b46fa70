package query_test

import (
	"slices"
	"strings"
	"testing"

	"justiciar/api"
)

// expectLimits looks at a string with what is valid, and at one with what exceeds a limit, at positions of their own.
func expectLimits[T any](t *testing.T, k kind[T], valid, more string, code api.Errno) {
	t.Helper()
	if x := k.tree(t, valid); !k.valid(x) {
		t.Errorf("%.200q is not valid", valid)
	}
	k.expectFault(t, more, code, "", 1, 1)
	k.expectFault(t, "\n--\n  "+more+" -- a", code, "", 3, 3)
	k.expectFault(t, " "+strings.Replace(more, " ", "\n", 1), code, "", 1, 2)
}

// nodes returns an expression of n nodes, 3 at least.
func nodes(n int) string {
	n--
	return "f(" + strings.Trim(many(n/3, "a+b")+strings.Repeat(",c", n%3), ",") + ")"
}

func expectMaxNodes[T any](t *testing.T, k kind[T], frames map[string]int) {
	t.Helper()
	for frame, n := range frames {
		expectLimits(t, k, strings.Replace(frame, "#", nodes(2000-n), 1), strings.Replace(frame, "#", nodes(2001-n), 1), api.ErrLimit)
	}
}

// P4.1 to P4.3: 2,000 nodes: queries, sources, expressions and changes; by what there is beside an expression.
func TestMaxNodes(t *testing.T) {
	expectMaxNodes(t, queries(), map[string]int{
		"select # from t": 2, "select distinct # as a from u.t x for update": 2, "select * from t where #": 2, "select * from t, u, v.w x having #": 4, "select a from t as of # x": 3, "select a, b + c from t as of 1, u group by # order by c desc, d": 10,
		"select * from t where exists (select * from u as of v) or #": 7, "select (select # from t) from t order by a": 6,
	})
	expectMaxNodes(t, changes(), map[string]int{
		"insert into t values (#)": 1, "insert into u.t (a, b) values (a, #)": 2, "insert into t select # from u": 3, "insert into t (a) select * from u as of # x, v": 4,
		"update t set a = #": 1, "update t set a = b, c = # where d is null": 4, "update t set a = b where #": 2, "delete from t where #": 1,
	})
}

func expectMaxLevels[T any](t *testing.T, k kind[T], frames map[string]int) {
	t.Helper()
	for frame, level := range frames {
		n := api.MaxNest - level
		expectLimits(t, k, strings.ReplaceAll(frame, "#", strings.Repeat("- ", n)+"a"), strings.ReplaceAll(frame, "#", strings.Repeat("- ", n+1)+"a"), api.ErrDeep)
	}
}

// P4.1 to P4.3: 40 levels, by that at which an expression stands.
func TestMaxLevels(t *testing.T) {
	expectMaxLevels(t, queries(), map[string]int{
		"select # from t": 2, "select a, # as b from t for update": 2, "select * from t where #": 2, "select * from t group by a, #": 2, "select * from t having #": 2, "select * from t order by a, # desc": 2, "select * from t as of #": 3, "select a from t, u.v as of # x": 3, "select # from t as of 1 where # group by # having # order by #": 2,
		"select f(#) from t": 3, "select a + # from t": 3, "select (select # from t) from t": 4, "select (select a from t as of # x) from t": 5, "select * from t where exists (select * from t where # = a)": 5, "select * from t as of (select # from t)": 5,
	})
	expectMaxLevels(t, changes(), map[string]int{
		"insert into t values (#)": 2, "insert into t (a, b) values (1, #)": 2, "insert into t select # from u": 3, "insert into t select * from u as of # x": 4, "insert into t select * from u where #": 3, "update t set a = #": 2, "update t set a = 1, b = # where #": 2, "update t set a = 1 where #": 2, "delete from t where #": 2, "delete from t where a = #": 3, "delete from t where exists (select * from u as of #)": 5,
	})
	in := func(n int) string {
		return strings.Repeat("(select a from t where ", n) + "a" + strings.Repeat(")", n)
	}
	expectLimits(t, queries(), "select * from t where "+in(19), "select * from t where "+in(20), api.ErrDeep)
	expectLimits(t, changes(), "delete from t where "+in(19), "delete from t where "+in(20), api.ErrDeep)
}

// counted returns n names, with commas between.
func counted(n int) string {
	return strings.Join(strings.Split("a b c d e f g h i j k l m n o p q r s t u v w x y z", " ")[:n], ",")
}

func expectMaxLists[T any](t *testing.T, k kind[T], frames map[string]int) {
	t.Helper()
	for frame, most := range frames {
		expectLimits(t, k, strings.ReplaceAll(frame, "#", counted(most)), strings.ReplaceAll(frame, "#", counted(most+1)), api.ErrLimit)
	}
}

// P4.1 to P4.3: as long as lists may be, also in queries within others.
func TestLongLists(t *testing.T) {
	expectMaxLists(t, queries(), map[string]int{
		"select # from t for update": api.MaxCols, "select distinct # as z, # from t": api.MaxCols / 2, "select * from #": 20, "select a from # for update": 20, "select * from t group by #": 10, "select * from t order by #": 10, "select * from t order by # desc": 10, "select * from t group by # order by #": 10,
		"select (select # from t) from t": api.MaxCols, "select * from t as of (select a from #)": 20, "select * from t where exists (select * from t group by #)": 10, "select * from t order by f((select * from t order by #))": 10,
	})
	expectMaxLists(t, changes(), map[string]int{
		"insert into t (#) values (1)": api.MaxCols, "insert into t values (#)": api.MaxCols, "insert into t (#) values (#)": api.MaxCols, "insert into t (#) select * from u": api.MaxCols, "insert into t select # from u": api.MaxCols, "insert into t select a from #": 20, "insert into t select * from t group by #": 10, "insert into t select * from t order by #": 10, "delete from t where exists (select # from t)": api.MaxCols,
	})
	set := func(n int) string { return "update t set " + many(n, "a = 1") + " where b" }
	expectLimits(t, changes(), set(api.MaxCols), set(api.MaxCols+1), api.ErrLimit)
}

func expectOrderOfFaults[T any](t *testing.T, k kind[T], frame, end string) {
	t.Helper()
	deep, long, wide := strings.Repeat("- ", api.MaxNest)+"a", nodes(2001), "(select "+counted(api.MaxCols+1)+" from t)"
	for _, s := range []string{deep, long, wide, "f(" + deep + "," + wide + ")"} {
		s = strings.Replace(frame, "#", s, 1)
		k.expectFault(t, s+" ;", api.ErrSyntax, ";", 1, len(s)+2)
		k.expectFault(t, s+end, api.ErrEnd, "", 1, len(s)+len(end)+1)
		k.expectFault(t, s+" ?", api.ErrLex, "?", 1, len(s)+2)
	}
	for _, s := range []string{"f(" + deep + "," + long + ")", "f(" + long + "," + deep + ")", "f(" + deep + "," + wide + ")", "f(" + wide + "," + deep + ")"} {
		k.expectFault(t, strings.Replace(frame, "#", s, 1), api.ErrLimit, "", 1, 1)
	}
	k.expectFault(t, strings.Replace(frame, "#", deep, 1), api.ErrDeep, "", 1, 1)
}

// P4.1, P4.2: what is not of the form is found ahead of what is not valid, and too much ahead of too many levels.
func TestOrderOfFaults(t *testing.T) {
	expectOrderOfFaults(t, queries(), "select # from t", " where")
	expectOrderOfFaults(t, queries(), "select * from t where #", " group")
	expectOrderOfFaults(t, changes(), "insert into t select # from u", " where")
	expectOrderOfFaults(t, changes(), "update t set a = #", ",")
	expectOrderOfFaults(t, changes(), "delete from t where #", " +")
}

func expectBoundless[T any](t *testing.T, k kind[T], of func(e api.Expr) T) {
	t.Helper()
	twice, deep := ex("a"), ex("a")
	for range 100 {
		twice = api.Expr{Op: api.EBinary, Text: "+", Kids: []api.Expr{twice, twice}}
	}
	circle := exs("- a")
	circle[0].Kids = circle
	for range 1 << 16 {
		deep = api.Expr{Op: api.EUnary, Text: "-", Kids: []api.Expr{deep}}
	}
	wide := api.Expr{Op: api.ECall, Path: path("f"), Kids: slices.Repeat(exs("a"), 1<<17)}
	for _, e := range []api.Expr{twice, circle[0], wide, deep} {
		x := of(e)
		if s, code := k.text(x); k.valid(x) || s != "" || code != api.ErrArg {
			t.Error(len(s), code)
		}
		if l, code := k.paths(x); len(l) != 0 || code != api.ErrArg {
			t.Error(len(l), code)
		}
	}
	if !k.same(of(deep), of(deep)) || k.same(of(deep), of(deep.Kids[0])) || !k.same(of(wide), of(wide)) {
		t.Error("what is great is not the same")
	}
}

// P4.3: what is not valid is found so, however much of it there is.
func TestBoundless(t *testing.T) {
	expectBoundless(t, queries(), func(e api.Expr) api.Query { return with(func(q *api.Query) { q.Where = []api.Expr{e} }) })
	expectBoundless(t, changes(), func(e api.Expr) api.Change {
		return api.Change{Op: api.CInsert, Path: path("t"), Vals: []api.Expr{e}}
	})
	circle := []api.Query{plain()}
	circle[0].Where = []api.Expr{{Op: api.EExists, Query: circle}}
	long := strings.Repeat("a", 1<<17)
	for _, q := range []api.Query{circle[0], {List: slices.Repeat(items("a"), 1<<17), From: from("t")}, {Star: true, From: slices.Repeat(from("t"), 1<<17)}, {Star: true, From: from(long)}, {Star: true, From: from("t"), Order: slices.Repeat(orders("a"), 1<<17)}} {
		queries().expectWrong(t, "a boundless query", q)
		changes().expectWrong(t, "a boundless change", api.Change{Op: api.CInsert, Path: path("t"), Query: []api.Query{q}})
	}
	names, vals := slices.Repeat(path("a"), 1<<17), slices.Repeat(exs("a"), 1<<17)
	for _, x := range []api.Change{{Op: api.CInsert, Path: names, Vals: exs("a")}, {Op: api.CInsert, Path: path("t"), Cols: names, Vals: exs("a")}, {Op: api.CUpdate, Path: path("t"), Cols: names, Vals: vals}, {Op: api.CDelete, Path: path("t"), Where: vals}, {Op: api.CDelete, Path: []string{long}}} {
		changes().expectWrong(t, "a boundless change", x)
	}
}
