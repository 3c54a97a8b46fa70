package check_test

import (
	"fmt"
	"strings"
	"testing"

	"justiciar/api"
	"justiciar/catalog"
	"justiciar/check"
)

// P10.3: what is not valid, and what layer 6 refuses.
func TestDefRefused(t *testing.T) {
	c := world(t)
	d := defOf(t, "create procedure q is begin zzz; end;")
	broken := copied(c)
	broken.Stamp = -1
	badDef := copied(d)
	badDef.Object.Stamp = 1
	for i, f := range []api.Fault{check.Def(broken, "u", d), check.Def(c, "x", d), check.Def(c, "", d), check.Def(c, "u", badDef), check.Def(c, "u", api.Def{})} {
		if f != (api.Fault{Code: api.ErrArg}) {
			t.Error(i, f)
		}
	}
	x := call{c, "u"}
	x.expectAll(t,
		expected{"^create procedure run is begin zzz; end;", api.ErrTwice, ""},
		expected{"^create or replace view run as select zzz from none;", api.ErrTwice, ""},
		expected{"^create procedure none.q is begin zzz; end;", api.ErrName, ""},
		expected{"^create trigger q before insert on none begin zzz; end;", api.ErrName, ""},
		expected{"^create trigger q before insert on v begin zzz; end;", api.ErrName, ""},
		expected{"^create index q on t (none);", api.ErrName, ""},
		expected{"^create table q (a int default zzz, constraint c foreign key (a) references t);", api.ErrName, ""},
		expected{"^create user u;", api.ErrTwice, ""},
		expected{"^drop table none;", api.ErrNone, ""},
		expected{"^drop table v;", api.ErrKind, ""},
		expected{"^alter table t add x int;", api.ErrTwice, ""},
		expected{"^grant select on w.t to u;", api.ErrRights, ""},
		expected{"^grant select on t to u;", api.ErrArg, ""},
	)
	full := copied(c)
	full.Stamp = api.MaxInt
	call{full, "u"}.expect(t, "^create procedure q is begin zzz; end;", api.ErrLimit, "")
	x.expectRight(t, "create user x;", "drop table t;", "drop function f;", "alter table t add q int;", "grant select on t to w;", "create index q on t (x);", "create sequence q start 1 by 1 cache 1;")
}

// P10.3: programs, in the catalog that the definition gives.
func TestDefOfPrograms(t *testing.T) {
	x := call{world(t), "u"}
	x.expectRight(t,
		"create or replace procedure run (a int) is begin run(1); u.run(a); end;",
		"create package q is x int := u.q.y; y int; end;",
		"create or replace function f (a int, b int) return int is begin return u.f(1, f(2, b)); end;",
		"create procedure w.q is begin run(1); w.q; end;",
		"create or replace invoker procedure run is begin put(pack.n + 1); end;",
	)
	x.expectAll(t,
		expected{"create or replace procedure run (a int) is begin ^u.run; end;", api.ErrCount, "u.run"},
		expected{"create or replace package pack is m int; procedure go is begin put(^pack.n); end; end;", api.ErrName, "pack.n"},
		expected{"create procedure q is begin ^u.q(1); end;", api.ErrCount, "u.q"},
		expected{"create procedure w.q is begin ^go(1); end;", api.ErrName, "go"},
	)
	// the fault of the program itself alone counts: what it names may have faults, too
	x.c = after(t, x.c, "u: create procedure q is begin zzz; end;")
	x.expectRight(t, "create procedure r is begin q; end;", "create or replace procedure q is begin null; end;")
}

// P10.3: views.
func TestDefOfViews(t *testing.T) {
	x := call{world(t), "u"}
	x.expectRight(t, "create view q as select x, y as z from t;", "create view q as select * from t, s;", "create view w.q as select d from t;", "create or replace view v as select 1 as one, null as two from t;",
		"create view q as select x, two.d, (select a from s where b = y) as m from t, w.t two;")
	x.expectAll(t,
		expected{"create view q as select ^zzz from t;", api.ErrName, "zzz"},
		expected{"create view q as select x from ^none;", api.ErrName, "none"},
		expected{"create view q as select x from t where ^y;", api.ErrType, "y"},
		expected{"create view q as select d from ^w.none;", api.ErrName, "w.none"},
		expected{"create view w.q as select ^x from t;", api.ErrName, "x"},
		expected{"create view q as select x from ^q;", api.ErrBad, "q"},
		expected{"create or replace view v as select x from ^v;", api.ErrBad, "v"},
		expected{"create view q as select x from ^worse;", api.ErrBad, "worse"},
		expected{"create view q as ^select x + 1 from t;", api.ErrName, ""},
		expected{"create view q as ^select x as a, x + 1, y as a from t;", api.ErrName, ""},
		expected{"create view q as ^select x as a, y as a, x + 1 from t;", api.ErrTwice, "a"},
		expected{"create view q as ^select x, t.x from t;", api.ErrTwice, "x"},
		expected{"create view q as ^select * from t, t two;", api.ErrTwice, "x"},
		expected{"create view q as ^select count(*) from t;", api.ErrName, ""},
		expected{"create view q as select x + ^n from t;", api.ErrName, "n"},
		expected{"create view q as select x from t where x = ^pack.n;", api.ErrName, "pack.n"},
		expected{"create view q as select x from t where x = ^sqlcode;", api.ErrName, "sqlcode"},
		expected{"create view q as select x from t where x = ^f(1);", api.ErrName, "f"},
	)
}

// P10.3: tables.
func TestDefOfTables(t *testing.T) {
	x := call{world(t), "u"}
	x.expectRight(t,
		"create table q (a int default 1 + length('x'), b text default null, c bool default (1 = 2), constraint k check (a > 0 and b is not null or c));",
		"create table q (a int, constraint k check (null), constraint l check (q.a = 1), constraint m primary key (a), constraint o foreign key (a) references q);",
		"create table w.q (x1 int default 1, constraint k check (q.x1 = 1));",
	)
	x.expectAll(t,
		expected{"create table q (a int default ^'x');", api.ErrType, ""},
		expected{"create table q (a text default 1 ^+ 2);", api.ErrType, "+"},
		expected{"create table q (a bool, b int default ^a);", api.ErrName, "a"},
		expected{"create table q (a int, b int default 1 + ^q.a);", api.ErrName, "q.a"},
		expected{"create table q (a int default ^x1 + x2);", api.ErrName, "x1"},
		expected{"create table q (a int default ^x2.x3);", api.ErrName, "x2.x3"},
		expected{"create table q (a int default ^u.q.a);", api.ErrName, "u.q.a"},
		expected{"create table q (a int default ^:new.a);", api.ErrName, "new.a"},
		expected{"create table q (a int default ^sqlcode);", api.ErrName, "sqlcode"},
		expected{"create table q (a int default ^seq.nextval);", api.ErrName, "seq.nextval"},
		expected{"create table q (a int default ^f(1));", api.ErrName, "f"},
		expected{"create table q (a int default ^(select x from t));", api.ErrKind, ""},
		expected{"create table q (a int default ^count(*));", api.ErrKind, "count"},
		expected{"create table q (a int default ^sum(1));", api.ErrKind, "sum"},
		expected{"create table q (a bool default ^c%found);", api.ErrKind, "c"},
		expected{"create table q (a int default 1 + ^zzz);", api.ErrName, "zzz"},
		expected{"create table q (a int default ^'x', b int default zzz, constraint k check (zzz));", api.ErrType, ""},
		expected{"create table q (a int, b int default ^zzz, constraint k check (zzz));", api.ErrName, "zzz"},
		expected{"create table q (a int, constraint k check (^a));", api.ErrType, "a"},
		expected{"create table q (a int, constraint k check (a ^+ 1));", api.ErrType, "+"},
		expected{"create table q (a int, constraint k check (^zzz = a), constraint l check (a));", api.ErrName, "zzz"},
		expected{"create table q (a int, constraint k check (a = 1), constraint l check (^a));", api.ErrType, "a"},
		expected{"create table q (a int, constraint k check (^t.x = 1));", api.ErrName, "t.x"},
		expected{"create table q (a int, constraint k check (^exists (select x from t)));", api.ErrKind, ""},
		expected{"create table q (a int, constraint k check (^sum(a) = 1));", api.ErrKind, "sum"},
		expected{"create table q (a int, constraint k check (^:new.a = 1));", api.ErrName, "new.a"},
		expected{"create table q (a int, constraint k check (a = ^f(a)));", api.ErrName, "f"},
	)
}

// P10.4: whether views and programs, and those that they hang on, have no fault.
func TestRight(t *testing.T) {
	c := after(t, users(t, "u", "w"),
		"u: create table t (x int default zzz, constraint k check (zzz));",
		"u: create index i on t (x);",
		"u: create sequence seq start 1 by 1 cache 1;",
		"u: create view v as select x from t;",
		"u: create view bad as select zzz from t;",
		"u: create view nameless as select x + 1 from t;",
		"u: create view onbad as select zzz as a from bad;",
		"u: create view onnameless as select x from t where exists (select * from nameless);",
		"u: create procedure p is begin for r in (select x from v) loop null; end loop; end;",
		"u: create procedure pbad is begin zzz; end;",
		"u: create procedure onpbad is begin pbad; end;",
		"u: create procedure far is begin onpbad; end;",
		"u: create procedure onname is begin for r in (select * from nameless) loop null; end loop; end;",
		"u: create package pack is n int; procedure a is begin w.pack.b; end; end;",
		"w: create package pack is n int; procedure b is begin u.pack.a; end; end;",
		"u: create package ring is n int; procedure a is begin w.ring.b; end; end;",
		"w: create package ring is n int; procedure b is begin u.ring.a; u.ring.zzz; end; end;",
		"u: create trigger g before insert on t begin p; end;",
		"u: create trigger gbad before insert on t begin p; onpbad; end;",
		"u: create procedure lost is begin p; end;",
		"u: create table q (a int, constraint k check (pbad.x = 1));",
		"u: create procedure self is begin self; u.self; end;",
	)
	for name, want := range map[string]bool{
		"t": true, "i": true, "seq": true, "v": true, "bad": false, "nameless": false, "onbad": false, "onnameless": false, "p": true, "pbad": false, "onpbad": false, "far": false, "onname": false,
		"pack": true, "ring": false, "g": true, "gbad": false, "lost": true, "q": true, "self": true,
	} {
		was := encoded(c)
		got, code := check.Right(c, "u", name)
		if again, _ := check.Right(c, "u", name); got != want || code != api.OK || again != got || encoded(c) != was {
			t.Error(name, got, again, code)
		}
	}
	if got, code := check.Right(c, "w", "ring"); got || code != api.OK {
		t.Error(got, code)
	}
	// Valid does not matter
	marked, _ := catalog.Mark(c, "u", "p", false)
	if got, code := check.Right(marked, "u", "lost"); !got || code != api.OK {
		t.Error(got, code)
	}
	// what a program hangs on may be gone, or have changed
	for _, one := range []struct {
		def  string
		name string
	}{{"u: drop view v;", "p"}, {"u: drop procedure p;", "lost"}, {"u: create or replace procedure p (a int) is begin null; end;", "lost"}, {"u: create or replace view v as select x as y from t;", "p"}, {"u: create or replace view v as select x as y from t;", "lost"}} {
		if got, code := check.Right(after(t, c, one.def), "u", one.name); got || code != api.OK {
			t.Error(one, got, code)
		}
	}
	if got, code := check.Right(after(t, c, "u: drop table t;"), "u", "lost"); got || code != api.OK {
		t.Error(got, code)
	}
	for _, one := range []struct {
		c           api.Catalog
		owner, name string
		code        api.Errno
	}{{c, "u", "none", api.ErrNone}, {c, "x", "p", api.ErrNone}, {c, "w", "p", api.ErrNone}, {c, "", "", api.ErrNone}, {api.Catalog{Stamp: -1}, "u", "p", api.ErrArg}, {api.Catalog{}, "u", "p", api.ErrNone}} {
		if got, code := check.Right(one.c, one.owner, one.name); got || code != one.code {
			t.Error(one.owner, one.name, got, code)
		}
	}
}

// A view, or a trigger's table, of a catalog may be anything by then.
func TestRightOfTriggers(t *testing.T) {
	c := after(t, users(t, "u"), "u: create table t (x int);", "u: create trigger g before insert on t for each row when (:new.x = 1) begin :new.x := 2; end;")
	if ok, code := check.Right(c, "u", "g"); !ok || code != api.OK {
		t.Error(ok, code)
	}
	other := copied(c)
	for i := range other.Objects {
		if other.Objects[i].Name == "t" {
			other.Objects[i].Table[0].Cols[0].Type = api.VText
		}
	}
	if ok, code := check.Right(other, "u", "g"); ok || code != api.OK {
		t.Error(ok, code)
	}
}

// Many programs with many statements are looked at in time.
func TestSize(t *testing.T) {
	body := strings.Repeat("begin "+strings.Repeat("delete from t;", 45)+" end; ", 20)
	l := []string{"u: create table t (a int);", "u: create procedure p0 is begin " + body + " end;"}
	for i := range 40 {
		l = append(l, fmt.Sprintf("u: create procedure p%d is begin p%d; %s end;", i+1, i, body))
	}
	c := after(t, users(t, "u"), l...)
	if ok, code := check.Right(c, "u", "p40"); !ok || code != api.OK {
		t.Error(ok, code)
	}
}
