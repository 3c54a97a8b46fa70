package resolve_test

import (
	"fmt"
	"strings"
	"testing"

	"justiciar/api"
	"justiciar/resolve"
)

// P7.1: the example of the document, and sources, names and columns.
func TestQuery(t *testing.T) {
	x := call{world(t), "u", variables()}
	for _, one := range [][3]string{
		{"select a, count(*) as n from t where b like 'x%' and a > v group by a",
			"select a@0.0.0, count(*) n from u.t t where and(like(b@0.0.1, 'x%'), >(a@0.0.0, v$0)) group by a@0.0.0", "a int, n int"},
		{"select a, b, c from t", "select a@0.0.0, b@0.0.1, c@0.0.2 from u.t t", "a int, b text, c bool"},
		{"select a as b, t.b as a, t.c from t", "select a@0.0.0 b, t.b@0.0.1 a, t.c@0.0.2 from u.t t", "b int, a text, c bool"},
		{"select d, far.a from w.t, w.far", "select d@0.0.0, far.a@0.1.0 from w.t t, w.far far", "d int, a int"},
		{"select x.a, t.a, b, y from s x, t", "select x.a@0.0.0, t.a@0.1.0, b@0.1.1, y@0.0.2 from u.s x, u.t t", "a int, a int, b text, y text"},
		{"select t.a, s.d from t, w.t s", "select t.a@0.0.0, s.d@0.1.0 from u.t t, w.t s", "a int, d int"},
		{"select 1, 'x' as s, true, null, a + 1, v, str as z, a is null from t", "select 1, 'x' s, true, null, +(a@0.0.0, 1), v$0, str$1 z, null(a@0.0.0) from u.t t", " int, s text,  bool,  null,  int, v int, z text,  bool"},
		{"select a, n, m from v", "select a@0.0.0, n@0.0.1, m@0.0.3 from u.v v", "a int, n text, m bool"},
		{"select z, two.y, z from nix, two", "select z@0.0.0, two.y@0.1.2, z@0.0.0 from u.nix nix, u.two two", "z null, y text, z null"},
		{"select d, e from w.v where v.d = v", "select d@0.0.0, e@0.0.1 from w.v v where =(v.d@0.0.0, v$0)", "d int, e text"},
		{"select :new.a, :old.a as o, pack.n, u.pack.n, a.element.e1 from one",
			"select :new.a$3, :old.a$4 o, pack.n$5, u.pack.n$6, a.element.e1$7 from u.one one", " int, o text, n int, n text, e1 int"},
		{"select a from one", "select a$2 from u.one one", "a bool"},
		{"select k from one where exists (select k from t where one.k = a and :new.a = k)",
			"select k@0.0.0 from u.one one where exists (select k@1.0.0 from u.t t where and(=(one.k@1.0.0, a@0.0.0), =(:new.a$3, k@1.0.0)))", "k int"},
		{"select a from t where a > 1 order by b desc, a + 1", "select a@0.0.0 from u.t t where >(a@0.0.0, 1) order by b@0.0.1 desc, +(a@0.0.0, 1)", "a int"},
		{"select x.a from t as of v + 1 x, s as of null", "select x.a@0.0.0 from u.t as of +(v$0, 1) x, u.s as of null s", "a int"},
		{"select a from t for update", "select a@0.0.0 from u.t t for update", "a int"},
		{"select b from t x where a = 1 order by c for update", "select b@0.0.1 from u.t x where =(a@0.0.0, 1) order by c@0.0.2 for update", "b text"},
		{"select distinct a, b from t order by b desc, a", "select distinct a@0.0.0, b@0.0.1 from u.t t order by b@0.0.1 desc, a@0.0.0", "a int, b text"},
	} {
		x.expectQuery(t, one[0], one[1], one[2])
	}
	w := call{world(t), "w", nil}
	w.expectQuery(t, "select d from t", "select d@0.0.0 from w.t t", "d int")
	w.expectQuery(t, "select a, d from u.t, v", "select a@0.0.0, d@0.1.0 from u.t t, w.v v", "a int, d int")
}

// P7.1: select * is all columns of all sources, at the query's position, without paths.
func TestStar(t *testing.T) {
	x := call{world(t), "u", nil}
	x.expectQuery(t, "select * from t", "select * @0.0.0 a, @0.0.1 b, @0.0.2 c from u.t t", "a int, b text, c bool")
	x.expectQuery(t, "select * from one, v, s z", "select * @0.0.0 k, @0.1.0 a, @0.1.1 n, @0.1.2, @0.1.3 m, @0.2.0 a, @0.2.1 x, @0.2.2 y from u.one one, u.v v, u.s z", "k int, a int, n text,  int, m bool, a int, x int, y text")
	x.expectQuery(t, "select * from two order by y", "select * @0.0.0 a, @0.0.1 a, @0.0.2 y from u.two two order by y@0.0.2", "a int, a int, y text")
	x.expectQuery(t, "select (select * from one), k from one", "select (select * @0.0.0 k from u.one one), k@0.0.0 from u.one one", " int, k int")
	q := queryOf(t, "select k from one where exists (select * from t)")
	q.Where[0].Query[0].Line, q.Where[0].Query[0].Col = 7, 9
	r, _, _ := x.query(t, q)
	for _, one := range r.Where[0].Query[0].List {
		if one.Expr.Line != 7 || one.Expr.Col != 9 {
			t.Error(one)
		}
	}
	x.expectFault(t, "^select * from t group by a", api.ErrGroup, "")
	x.expectFault(t, "^select * from t having true", api.ErrGroup, "")
	x.expectFault(t, "select distinct * from t order by ^b, a", api.ErrKind, "b")
}

// P7.1: the faults of sources, in their order.
func TestSourceFaults(t *testing.T) {
	x := call{world(t), "u", variables()}
	x.expectFaults(t, []expected{
		{"select a from ^none", api.ErrName, "none"},
		{"select a from t, ^w.s", api.ErrName, "w.s"},
		{"select a from ^w.none x", api.ErrName, "w.none"},
		{"select a from ^v.t", api.ErrName, "v.t"},
		{"select a from ^i", api.ErrKind, "i"},
		{"select a from ^u.seq", api.ErrKind, "u.seq"},
		{"select a from ^p", api.ErrKind, "p"},
		{"select a from ^pack", api.ErrKind, "pack"},
		{"select a from ^g", api.ErrKind, "g"},
		{"select d from ^w.bad", api.ErrBad, "w.bad"},
		{"select d from ^worse", api.ErrBad, "worse"},
		{"select a from t, ^t", api.ErrTwice, "t"},
		{"select a from t, ^w.t", api.ErrTwice, "w.t"},
		{"select a from t s, v, ^u.s", api.ErrTwice, "u.s"},
		{"select a from t x, v, ^s x", api.ErrTwice, "s"},
		{"select a from s t, ^t", api.ErrTwice, "t"},
		{"select a from t as of ^true", api.ErrType, ""},
		{"select a from t as of ^'x' t", api.ErrType, ""},
		{"select a from t as of ^str", api.ErrType, "str"},
		{"select a from t as of 1 ^|| 'x'", api.ErrType, "||"},
		{"select a from t as of (1 ^in (1, 2))", api.ErrType, ""},
		{"select a from t as of ^b", api.ErrName, "b"},
		{"select a from t as of ^t.a", api.ErrName, "t.a"},
		{"select a from t as of ^(select k from one)", api.ErrKind, ""},
		{"select a from t as of ^(select zzz from none, k)", api.ErrKind, ""},
		{"select a from t as of (1 + ^(select k from one))", api.ErrKind, ""},
		{"select a from t as of (^exists (select k from one))", api.ErrKind, ""},
		{"select a from t as of ^sum(1)", api.ErrKind, "sum"},
		{"select a from t as of ^count(*)", api.ErrKind, "count"},
		{"select a from t as of ^count(1, 2)", api.ErrKind, "count"},
		{"select a from t as of max(^min(1))", api.ErrKind, "min"},
		{"select a from t as of abs(^min(1))", api.ErrKind, "min"},
		{"select a from t as of sum(^zzz)", api.ErrName, "zzz"},
		{"select a from t as of ^c%found", api.ErrKind, "c"},
		{"select zzz from t as of ^zzz, none, t", api.ErrName, "zzz"},
		{"select zzz from t as of 1, t as of ^zzz", api.ErrName, "zzz"},
		{"select zzz from t, ^none, t, i", api.ErrName, "none"},
		{"select zzz from t, ^i, none", api.ErrKind, "i"},
		{"select zzz from t, t x, s, one, ^v", api.ErrLimit, "v"},
		{"select zzz from t, t x, s, one, ^w.none as of zzz t", api.ErrLimit, "w.none"},
		{"select zzz from t, s, one, ^none, v, w.v x", api.ErrName, "none"},
		{"select zzz from t, t x, s, one, ^v, w.v x, two, nix", api.ErrLimit, "v"},
		{"select a from t where exists (select b from ^none)", api.ErrName, "none"},
		{"select a from t where exists (select b from t as of ^t.a)", api.ErrName, "t.a"},
	})
	w := call{world(t), "w", nil}
	w.expectFault(t, "select a from ^s", api.ErrName, "s")
	w.expectFault(t, "select a from ^bad", api.ErrBad, "bad")
	x.expectQuery(t, "select t.k from one t, t x, s, w.v", "select t.k@0.0.0 from u.one t, u.t x, u.s s, w.v v", "k int")
}

// P7.1: a view is resolved for its owner, without binds and queries around it, and views are at most 3 within each other.
func TestViews(t *testing.T) {
	c := after(t, users(t, "u", "w"),
		"w: create table t (d int);", "u: create table t (a int);",
		"w: create view v1 as select d from t;",
		"u: create view v2 as select d from w.v1;",
		"w: create view v3 as select d from t where exists (select d from u.v2 where v2.d = t.d);",
		"u: create view v4 as select a from t where a in (1, (select d from w.v3));",
		"u: create view v5 as select a from v4;",
		"u: create view side as select x.d from w.v3 x, w.v1, v2;",
		"u: create view bound as select v from t;",
		"u: create view outer1 as select a from t where exists (select a from inner1);",
		"u: create view inner1 as select a as z from t where t.q = 1;",
		"u: create view loop1 as select a from loop2;", "u: create view loop2 as select a from loop1;", "u: create view self as select a from t where exists (select * from self);",
		"u: create view lost as select a from gone;",
		"u: create view typed as select a from t where a;",
		"u: create view grouped as select a from t group by a having count(*) > 1;",
		"u: create view timed as select a from t as of 3;",
	)
	x := call{c, "u", []api.Bind{{Path: []string{"v"}, Type: api.VInt}, {Path: []string{"q"}, Type: api.VInt}}}
	x.expectQuery(t, "select d from w.v1", "select d@0.0.0 from w.v1 v1", "d int")
	x.expectQuery(t, "select d from v2", "select d@0.0.0 from u.v2 v2", "d int")
	x.expectQuery(t, "select d from w.v3", "select d@0.0.0 from w.v3 v3", "d int")
	x.expectFault(t, "select a from ^v4", api.ErrBad, "v4")
	x.expectFault(t, "select a from ^v5", api.ErrBad, "v5")
	x.expectFault(t, "select d from ^side", api.ErrBad, "side")
	x.expectFault(t, "select d from w.v3, ^v4", api.ErrBad, "v4")
	x.expectQuery(t, "select v3.d from w.v1, v2, w.v3", "select v3.d@0.2.0 from w.v1 v1, u.v2 v2, w.v3 v3", "d int")
	x.expectQuery(t, "select v3.d from w.v3, v2, w.v1", "select v3.d@0.0.0 from w.v3 v3, u.v2 v2, w.v1 v1", "d int")
	x.expectQuery(t, "select a from t where exists (select d from w.v3)", "select a@0.0.0 from u.t t where exists (select d@0.0.0 from w.v3 v3)", "a int")
	for _, name := range []string{"bound", "outer1", "inner1", "loop1", "loop2", "self", "lost", "typed"} {
		x.expectFault(t, "select a from ^"+name, api.ErrBad, name)
		x.expectFault(t, "select q from t where exists (select a from t q, ^"+name+")", api.ErrBad, name)
	}
	x.expectQuery(t, "select a from grouped", "select a@0.0.0 from u.grouped grouped", "a int")
	x.expectQuery(t, "select a from timed as of 1", "select a@0.0.0 from u.timed as of 1 timed", "a int")
}

// Views that read views again and again are looked at in time.
func TestViewsOften(t *testing.T) {
	often := func(name string) string {
		return "select a from t where 1 in (" + strings.TrimSuffix(strings.Repeat("(select count(*) from "+name+" x, "+name+" y, "+name+" z, "+name+"), ", 120), ", ") + ")"
	}
	c := after(t, users(t, "u"), "u: create table t (a int);",
		"u: create view v1 as "+often("t")+";", "u: create view v2 as "+often("v1")+";", "u: create view v3 as "+often("v2")+";", "u: create view v4 as "+often("v3")+";")
	x := call{c, "u", nil}
	q := queryOf(t, often("v3"))
	if _, l, f := resolve.Query(x.c, x.user, nil, q); f != (api.Fault{}) || shownNames(l) != "a int" {
		t.Error(f, l)
	}
	if _, _, f := resolve.Query(x.c, x.user, nil, queryOf(t, often("v4"))); f.Code != api.ErrBad {
		t.Error(f)
	}
}

// P7.1: more than 80 columns of select *.
func TestManyColumns(t *testing.T) {
	columns := func(n int) string {
		var l []string
		for i := range n {
			l = append(l, fmt.Sprintf("c%d int", i))
		}
		return strings.Join(l, ", ")
	}
	c := after(t, users(t, "u"), "u: create table t ("+columns(20)+");", "u: create table one (c int);",
		"u: create view four as select * from t, t x, t y, t z;",
		"u: create view nameless as select 1, c, c + 1 from one;")
	x := call{c, "u", nil}
	for _, s := range []string{"select * from t, t x, t y, t z", "select * from four"} {
		if _, l, f := x.query(t, queryOf(t, s)); f != (api.Fault{}) || len(l) != 80 || l[79] != (api.Named{Name: "c19", Type: api.VInt}) {
			t.Errorf("%s: %v %v", s, f, l)
		}
	}
	x.expectFault(t, "^select * from t, four", api.ErrLimit, "")
	x.expectFault(t, "^select * from one, four", api.ErrLimit, "")
	x.expectFault(t, "^select * from four, one where zzz", api.ErrLimit, "")
	x.expectFault(t, "^select * from four, nameless order by zzz", api.ErrLimit, "")
	x.expectFault(t, "select c from one where exists (^select * from one, four)", api.ErrLimit, "")
	x.expectFault(t, "select * from four, one, ^none", api.ErrName, "none")
	x.expectQuery(t, "select c from one, four", "select c@0.0.0 from u.one one, u.four four", "c int")
	if l, code := resolve.Columns(c, "u", []string{"four"}); code != api.OK || len(l) != 80 {
		t.Error(code, l)
	}
}

// P7.1: what names mean: columns of the query, then of those around it, then binds.
func TestNames(t *testing.T) {
	x := call{world(t), "u", variables()}
	for _, one := range [][2]string{
		{"select 1 from t where exists (select 1 from s where a = x)", "select 1 from u.t t where exists (select 1 from u.s s where =(a@0.0.0, x@0.0.1))"},
		{"select 1 from t where exists (select 1 from s where t.a = s.a)", "select 1 from u.t t where exists (select 1 from u.s s where =(t.a@1.0.0, s.a@0.0.0))"},
		{"select 1 from t x, s where exists (select 1 from one where b = y)", "select 1 from u.t x, u.s s where exists (select 1 from u.one one where =(b@1.0.1, y@1.1.2))"},
		{"select 1 from t where exists (select 1 from one where exists (select 1 from s where b = y and k = s.a and t.a = v))", "select 1 from u.t t where exists (select 1 from u.one one where exists (select 1 from u.s s where and(and(=(b@2.0.1, y@0.0.2), =(k@1.0.0, s.a@0.0.0)), =(t.a@2.0.0, v$0))))"},
		{"select 1 from t where exists (select 1 from w.t where t.d = a)", "select 1 from u.t t where exists (select 1 from w.t t where =(t.d@0.0.0, a@1.0.0))"},
		{"select 1 from one, two where exists (select y from one t)", "select 1 from u.one one, u.two two where exists (select y@1.1.2 from u.one t)"},
		{"select (select a from s) from t", "select (select a@0.0.0 from u.s s) from u.t t"},
		{"select (select t.a + (select one.k + s.a from one) from s) from t", "select (select +(t.a@1.0.0, (select +(one.k@0.0.0, s.a@1.0.0) from u.one one)) from u.s s) from u.t t"},
		{"select (select pack.n from s) from t", "select (select pack.n$5 from u.s s) from u.t t"},
	} {
		x.expectQuery(t, one[0], one[1], " int")
	}
	x.expectFaults(t, []expected{
		{"select ^zzz from t", api.ErrName, "zzz"},
		{"select ^t.zzz from t", api.ErrName, "t.zzz"},
		{"select ^x.a from t", api.ErrName, "x.a"},
		{"select ^u.a from t", api.ErrName, "u.a"},
		{"select ^u.t.a from t", api.ErrName, "u.t.a"},
		{"select ^t.a from t x", api.ErrName, "t.a"},
		{"select ^:new.zzz from t", api.ErrName, "new.zzz"},
		{"select ^:old.b from t", api.ErrName, "old.b"},
		{"select ^a from t, s", api.ErrTwice, "a"},
		{"select ^a from two", api.ErrTwice, "a"},
		{"select ^two.a from one, two", api.ErrTwice, "two.a"},
		{"select ^pack.n from t pack", api.ErrName, "pack.n"},
		{"select ^v.zzz from w.v", api.ErrName, "v.zzz"},
		{"select 1 from t pack where exists (select ^pack.n from s)", api.ErrName, "pack.n"},
		{"select 1 from t where exists (select 1 from w.t where ^t.a = 1)", api.ErrName, "t.a"},
		{"select 1 from t, s where exists (select 1 from one where ^a = 1)", api.ErrTwice, "a"},
		{"select 1 from t where exists (select 1 from two where ^a = 1)", api.ErrTwice, "a"},
		{"select 1 from t where exists (select a from s) and ^x = 1", api.ErrName, "x"},
		{"select 1 from t order by ^n", api.ErrName, "n"},
		{"select a as n from t order by ^n", api.ErrName, "n"},
	})
	bare := call{world(t), "u", nil}
	bare.expectFault(t, "select ^v from t", api.ErrName, "v")
	bare.expectFault(t, "select k, ^:new.a from one", api.ErrName, "new.a")
}

// P7.1: the order in which a query is looked at.
func TestOrderOfFaults(t *testing.T) {
	x := call{world(t), "u", nil}
	x.expectFaults(t, []expected{
		{"select l from t, ^none where w group by g having h order by o", api.ErrName, "none"},
		{"select ^l from t where w group by g having h order by o", api.ErrName, "l"},
		{"select a, ^l from t where w group by g having h order by o", api.ErrName, "l"},
		{"select b from t where ^w group by g having h order by o", api.ErrName, "w"},
		{"select b from t where a group by ^g having h order by o", api.ErrName, "g"},
		{"select b from t where a group by a, ^g having h order by o", api.ErrName, "g"},
		{"select b from t where a group by a having ^h order by o", api.ErrName, "h"},
		{"select b from t where a group by a having a order by b, ^o", api.ErrName, "o"},
		{"select b from t where ^a group by a having a order by b", api.ErrType, "a"},
		{"select b from t where ^a group by a having 'x' order by b", api.ErrType, "a"},
		{"select b from t where c group by a having ^b order by b", api.ErrType, "b"},
		{"select b from t where c having ^1", api.ErrType, ""},
		{"select ^b from t where c group by a having c order by b", api.ErrGroup, "b"},
		{"select a from t where c group by a having ^c order by b", api.ErrGroup, "c"},
		{"select a from t where c group by a having true order by ^b", api.ErrGroup, "b"},
		{"select distinct ^b from t group by a order by c", api.ErrGroup, "b"},
		{"select distinct a from t order by a, ^b", api.ErrKind, "b"},
		{"select distinct a from t order by ^t.a, b", api.ErrKind, "t.a"},
		{"select distinct a from t order by a ^+ 1", api.ErrKind, "+"},
		{"select distinct a from t group by a order by ^count(*)", api.ErrKind, "count"},
		{"select distinct a from t order by ^b for update", api.ErrKind, "b"},
		{"select a ^+ b from t where zzz", api.ErrType, "+"},
	})
	x.expectQuery(t, "select a from t where null group by a having null and true", "select a@0.0.0 from u.t t where null group by a@0.0.0 having and(null, true)", "a int")
	x.expectQuery(t, "select distinct a + 1, b from t order by a + 1", "select distinct +(a@0.0.0, 1), b@0.0.1 from u.t t order by +(a@0.0.0, 1)", " int, b text")
}

// P7.1: for update.
func TestLock(t *testing.T) {
	x := call{world(t), "u", nil}
	for _, s := range []string{
		"^select a from t, one for update", "^select a from v for update", "^select d from w.v for update", "^select a from t as of 1 for update", "^select count(*) from t for update",
		"^select a from t group by a for update", "^select 1 from t having true for update", "^select 1 from t order by count(*) for update", "^select distinct a from t for update", "^select distinct a from t order by a for update",
	} {
		x.expectFault(t, s, api.ErrKind, "")
	}
	x.expectFault(t, "select a from t, one where ^b for update", api.ErrType, "b")
	x.expectQuery(t, "select b from t where exists (select 1 from v) for update", "select b@0.0.1 from u.t t where exists (select 1 from u.v v) for update", "b text")
	x.expectQuery(t, "select (select count(*) from v, s) as n from w.t for update", "select (select count(*) from u.v v, u.s s) n from w.t t for update", "n int")
}
