package resolve_test

import (
	"testing"

	"justiciar/api"
)

// P7.2
func TestChange(t *testing.T) {
	x := call{world(t), "u", variables()}
	for _, one := range [][2]string{
		{"insert into t values (1, 'x', true)", "insert u.t cols a, b, c vals 1, 'x', true"},
		{"insert into u.t values (v, :old.a, a)", "insert u.t cols a, b, c vals v$0, :old.a$4, a$2"},
		{"insert into t (c, a) values (null, v + 1)", "insert u.t cols c, a vals null, +(v$0, 1)"},
		{"insert into t (b) values ((select y from s where a = 1))", "insert u.t cols b vals (select y@0.0.2 from u.s s where =(a@0.0.0, 1))"},
		{"insert into t (a) values ((select max(x) from s) + v)", "insert u.t cols a vals +((select max(x@0.0.1) from u.s s), v$0)"},
		{"insert into one values ((select k from one where exists (select k from t)))", "insert u.one cols k vals (select k@0.0.0 from u.one one where exists (select k@1.0.0 from u.t t))"},
		{"insert into w.t select a, b from t", "insert w.t cols d, e select a@0.0.0, b@0.0.1 from u.t t"},
		{"insert into t select * from t", "insert u.t cols a, b, c select * @0.0.0 a, @0.0.1 b, @0.0.2 c from u.t t"},
		{"insert into t (b, a) select null, count(*) from w.v", "insert u.t cols b, a select null, count(*) from w.v v"},
		{"update t set a = a + v, c = b like str where t.b = 'x'", "update u.t cols a, c vals +(a@0.0.0, v$0), like(b@0.0.1, str$1) where =(t.b@0.0.1, 'x')"},
		{"update w.t set d = t.d where e is null", "update w.t cols d vals t.d@0.0.0 where null(e@0.0.1)"},
		{"update t set b = null", "update u.t cols b vals null"},
		{"update t set a = (select max(x) from s where y = b and t.a = s.a)", "update u.t cols a vals (select max(x@0.0.1) from u.s s where and(=(y@0.0.2, b@1.0.1), =(t.a@1.0.0, s.a@0.0.0)))"},
		{"update t set c = exists (select 1 from t x where x.a = t.a) where exists (select count(*) from s where x = :new.a)", "update u.t cols c vals exists (select 1 from u.t x where =(x.a@0.0.0, t.a@1.0.0)) where exists (select count(*) from u.s s where =(x@0.0.1, :new.a$3))"},
		{"update one set k = case when a then k else pack.n end", "update u.one cols k vals case(a$2, k@0.0.0, pack.n$5)"},
		{"delete from t", "delete u.t"},
		{"delete from w.t where t.d = v or null", "delete w.t where or(=(t.d@0.0.0, v$0), null)"},
		{"delete from t where null", "delete u.t where null"},
		{"delete from t where a in (1, (select count(*) from s where s.x = t.a))", "delete u.t where in(a@0.0.0, 1, (select count(*) from u.s s where =(s.x@0.0.1, t.a@1.0.0)))"},
	} {
		x.expectChange(t, one[0], one[1])
	}
	w := call{world(t), "w", nil}
	w.expectChange(t, "insert into t values (1, 'x')", "insert w.t cols d, e vals 1, 'x'")
	w.expectChange(t, "update u.t set a = (select d from t) where t.c", "update u.t cols a vals (select d@0.0.0 from w.t t) where t.c@0.0.2")
}

// P7.2: the faults of changes.
func TestChangeFaults(t *testing.T) {
	x := call{world(t), "u", variables()}
	for _, one := range []expected{
		{"^insert into none values (zzz)", api.ErrName, "none"}, {"^update w.s set a = 1", api.ErrName, "w.s"}, {"^delete from u.none where zzz", api.ErrName, "u.none"},
		{"^insert into v (zzz) values (1)", api.ErrKind, "v"}, {"^update u.seq set a = zzz", api.ErrKind, "u.seq"}, {"^delete from w.v where zzz", api.ErrKind, "w.v"}, {"^delete from i", api.ErrKind, "i"}, {"^delete from pack", api.ErrKind, "pack"},
		{"^insert into t (a, zzz) values (y)", api.ErrName, "zzz"}, {"^insert into t (a, b, a, zzz) values (y)", api.ErrTwice, "a"}, {"^insert into t (a, zzz, a) values (y)", api.ErrName, "zzz"}, {"^insert into t (zzz, zzz) select y from none", api.ErrName, "zzz"}, {"^insert into t (b, b) select y from none", api.ErrTwice, "b"},
		{"^update t set a = y, zzz = 1", api.ErrName, "zzz"}, {"^update t set c = y, c = 1", api.ErrTwice, "c"}, {"^update t set v = 1", api.ErrName, "v"},
		{"^insert into t values (y, 1)", api.ErrCount, ""}, {"^insert into t values (1, 'x', true, 1)", api.ErrCount, ""}, {"^insert into t (a) values (y, 'x')", api.ErrCount, ""}, {"^insert into t (a, b) values ('x')", api.ErrCount, ""},
		{"^insert into t select a, b from t", api.ErrCount, ""}, {"insert into t (a) select ^b, y from s where false", api.ErrName, "b"}, {"^insert into t (b) select * from s", api.ErrCount, ""}, {"^insert into one select k, k from one", api.ErrCount, ""},
		{"insert into t (a, b) values (^y, 1)", api.ErrName, "y"}, {"insert into t (b, a) values ('x', ^y)", api.ErrName, "y"}, {"insert into t (a, b) values (1, ^t.b)", api.ErrName, "t.b"}, {"insert into t (b) values (^b)", api.ErrName, "b"}, {"insert into t (a) values ((select x from s where ^t.a = 1))", api.ErrName, "t.a"},
		{"insert into t (a, b) values (1, ^v)", api.ErrType, "v"}, {"insert into t (a, c) values (^'x', 1)", api.ErrType, ""}, {"insert into t (a, c) values (null, 1 ^+ 1)", api.ErrType, "+"}, {"insert into t values (1, 'x', ^(select a from t))", api.ErrType, ""}, {"insert into t values (1, 2 ^+ 'x', 3)", api.ErrType, "+"},
		{"insert into t (a, b) ^select x, a from s", api.ErrType, ""}, {"insert into t (a, b, c) ^select b, b, b from t", api.ErrType, ""}, {"insert into one ^select c from t", api.ErrType, ""}, {"insert into t (a) select ^y from t", api.ErrName, "y"}, {"insert into t (a) select 1 from ^none", api.ErrName, "none"}, {"insert into t (a) select 1 from s where ^x", api.ErrType, "x"},
		{"insert into t (a) values (^count(*))", api.ErrGroup, "count"}, {"insert into t (a) values (1 + ^max(1))", api.ErrGroup, "max"}, {"insert into t (a) values (^sum(1, 2))", api.ErrGroup, "sum"}, {"update t set a = ^sum(a)", api.ErrGroup, "sum"}, {"update t set a = 1 where ^count(a) = 1", api.ErrGroup, "count"}, {"delete from t where ^count(*) = 1", api.ErrGroup, "count"}, {"delete from t where 1 = (select 1 from s where ^count(*) = 1)", api.ErrGroup, "count"},
		{"update t set a = ^w.a", api.ErrName, "w.a"}, {"update t set a = ^u.t.a", api.ErrName, "u.t.a"}, {"update w.t set d = ^w.d", api.ErrName, "w.d"},
		{"update t set a = ^b where 1", api.ErrType, "b"}, {"update t set b = 'x', a = ^true where a", api.ErrType, ""}, {"update t set b = ^v", api.ErrType, "v"}, {"update t set a = 1 where ^a", api.ErrType, "a"}, {"update t set a = 1 where a ^+ 1", api.ErrType, "+"}, {"update t set a = (select ^y from w.t)", api.ErrName, "y"}, {"update t set a = ^(select a, b from t)", api.ErrCount, ""},
		{"delete from t where ^b", api.ErrType, "b"}, {"delete from t where ^1", api.ErrType, ""}, {"delete from t where ^y", api.ErrName, "y"}, {"delete from t where exists (select 1 from ^bad)", api.ErrName, "bad"}, {"delete from t where exists (select 1 from ^w.bad)", api.ErrBad, "w.bad"}, {"delete from t where ^c%found", api.ErrKind, "c"},
	} {
		x.expectChangeFault(t, one.s, one.code, one.name)
	}
}

// P7.2: of several faults of a change the one whose token comes first, be it one within a value, or that the value is of another kind than its column; but those of the change itself first.
func TestChangeFirstFault(t *testing.T) {
	x := call{world(t), "u", variables()}
	for _, one := range []expected{
		{"update t set a = ^'x', b = y", api.ErrType, ""}, {"update t set a = ^'x' where y", api.ErrType, ""}, {"update t set a = ^b where 1", api.ErrType, "b"}, {"update t set a = 1, b = ^2, c = y where y", api.ErrType, ""},
		{"update t set a = ^y, b = 1", api.ErrName, "y"}, {"update t set a = 1, b = ^y, c = 1", api.ErrName, "y"}, {"update t set a = 1, b = 'x' where ^y", api.ErrName, "y"}, {"update t set b = 1 ^+ 'x', a = 'x'", api.ErrType, "+"}, {"update t set b = 1 + ^y, a = 'x'", api.ErrName, "y"}, {"update t set b = v ^+ 1 where y", api.ErrType, "+"},
		{"insert into t (a, b) values (^'x', y)", api.ErrType, ""}, {"insert into t (b, a) values (^v, count(*))", api.ErrType, "v"}, {"insert into t (a, b) values (^count(*), 1)", api.ErrGroup, "count"}, {"insert into t values (1, ^(select x from s), (select y from none))", api.ErrType, ""}, {"insert into t values (null, (select x from ^none), 1)", api.ErrName, "none"},
		{"^update t set a = 'x', zzz = y", api.ErrName, "zzz"}, {"^update t set a = y, a = 'x'", api.ErrTwice, "a"}, {"^insert into t (a, b) values ('x', 1, y)", api.ErrCount, ""}, {"^insert into t (a, zzz) values ('x', y)", api.ErrName, "zzz"},
		{"insert into t (a, b) ^select b, a from t where true", api.ErrType, ""}, {"insert into t (a, b) select b, a from t where ^y", api.ErrName, "y"},
	} {
		x.expectChangeFault(t, one.s, one.code, one.name)
	}
}

// P7.2: a fault of a change that is not at its first line.
func TestChangePosition(t *testing.T) {
	x := call{world(t), "u", nil}
	h := changeOf(t, "insert into t (a) values (1, 2)")
	h.Line, h.Col = 5, 9
	if _, f := x.change(t, h); f != (api.Fault{Code: api.ErrCount, Line: 5, Col: 9}) {
		t.Error(f)
	}
	h = changeOf(t, "delete\n from t\n where a =\n  zzz")
	if _, f := x.change(t, h); f != (api.Fault{Code: api.ErrName, Name: "zzz", Line: 4, Col: 3}) {
		t.Error(f)
	}
}
