package check_test

import (
	"strings"
	"testing"

	"justiciar/api"
	"justiciar/catalog"
	"justiciar/check"
)

// P10.1: declarations of blocks, and what may be used in them.
func TestDeclarations(t *testing.T) {
	x := call{world(t), "u"}
	x.expectRight(t,
		"declare a int := 1; b int := a + 1; c text := to_text(b); d bool; e array of int; f exception; g int := null; begin null; end;",
		"declare x int; cursor c is select y from t where t.x = x; x2 int := c%rowcount; begin null; end;",
		"declare a int := sqlcode; b text := sqlname; c int := pack.n + seq.nextval + f(1); begin null; end;",
		"declare x int := 1; begin declare y int := x; x text := to_text(y); begin x := 'a'; end; end;",
		"declare l array of int; a int := l.size; b int := l(1); begin null; end;",
		"declare cursor x is select y from t; begin for x in x loop put(x.y); end loop; end;",
		"declare y int; cursor c is select a from s where a = y; y2 text; begin null; end;",
		"create procedure q (a int) is b int := a; a text := to_text(b); begin a := 'x'; end;",
		"create function h (a int) return int is b int := a; c int := h(b); begin return c; end;",
	)
	x.expectAll(t,
		expected{"declare a int; ^a text; begin zzz; end;", api.ErrTwice, "a"},
		expected{"declare a int := zzz; b text; ^a text; begin null; end;", api.ErrTwice, "a"},
		expected{"declare a int; ^cursor a is select zzz from none; begin null; end;", api.ErrTwice, "a"},
		expected{"declare a exception; b int; ^b exception; a exception; begin null; end;", api.ErrTwice, "b"},
		expected{"begin declare a int; ^a int; begin null; end; end;", api.ErrTwice, "a"},
		expected{"declare a int := ^b; b int; begin null; end;", api.ErrName, "b"},
		expected{"declare a int := ^a; begin null; end;", api.ErrName, "a"},
		expected{"declare pack int := ^pack; begin null; end;", api.ErrKind, "pack"},
		expected{"declare a int := ^'x'; b int := zzz; begin null; end;", api.ErrType, ""},
		expected{"declare a int := 1; b text := ^a; begin zzz; end;", api.ErrType, "a"},
		expected{"declare a bool := ^zzz; begin none; end;", api.ErrName, "zzz"},
		expected{"declare a int := ^(select x from t); begin null; end;", api.ErrKind, ""},
		expected{"declare cursor c is select x from t where x = ^v2; v2 int; begin null; end;", api.ErrName, "v2"},
		expected{"declare cursor c is select ^zzz from t; a int := none; begin null; end;", api.ErrName, "zzz"},
		expected{"declare cursor c is select x from ^none; begin zzz; end;", api.ErrName, "none"},
		expected{"declare cursor c is select x from t where ^c%found; begin null; end;", api.ErrKind, "c"},
		expected{"declare l array of int; cursor c is select x from t where x = l(^zzz); begin null; end;", api.ErrName, "zzz"},
		expected{"declare x int; begin declare y text := ^x; x text; begin null; end; end;", api.ErrType, "x"},
		expected{"declare x int; begin declare cursor c is select y from t where y = ^x2; x3 int; begin null; end; end;", api.ErrName, "x2"},
		expected{"declare a int; begin ^zzz; exception when none then null; end;", api.ErrName, "zzz"},
		expected{"create procedure q (a int) is b int; ^b text; begin null; end;", api.ErrTwice, "b"},
		expected{"create procedure q (a int) is b text := ^a; begin null; end;", api.ErrType, "a"},
	)
}

// P10.1: parameters, and functions that do not return.
func TestSubs(t *testing.T) {
	x := call{world(t), "u"}
	x.expectAll(t,
		expected{"create procedure q (a int, b text, ^a bool) is a int := zzz; begin null; end;", api.ErrTwice, "a"},
		expected{"create procedure q (a int, ^a out array of int) is begin null; end;", api.ErrTwice, "a"},
		expected{"create ^function h return int is begin null; end;", api.ErrEnd, "h"},
		expected{"create or replace ^function h (a int) return int is begin raise no_room; exception when others then null; end;", api.ErrEnd, "h"},
		expected{"create ^function h return int is begin zzz; end;", api.ErrEnd, "h"},
		expected{"create ^function h (a int, a int) return int is b int := zzz; begin null; end;", api.ErrEnd, "h"},
		expected{"create package q is ^function h return int is begin null; end; end;", api.ErrEnd, "h"},
		expected{"create package q is function h return int is begin return 1; end; private ^function i return int is begin loop null; end loop; end; end;", api.ErrEnd, "i"},
		expected{"create package q is procedure h is begin ^zzz; end; function i return int is begin null; end; end;", api.ErrName, "zzz"},
	)
}

// P10.1: packages.
func TestPackages(t *testing.T) {
	x := call{world(t), "u"}
	x.expectRight(t,
		"create package q is end;",
		"create package q is a int := 1; b int := a + h(a); l array of text; e exception; function h (x int) return int is begin b := x; return i(a); end; private function i (x int) return int is begin return h(x); end; procedure j is begin j; l(1) := 'x'; raise e; end; end;",
		"create package q is a int := pack.n; c int := q.a + u.q.b; b int; procedure h is begin q.h; u.q.h; q.b := 1; end; end;",
	)
	x.expectAll(t,
		expected{"create package q is a int := zzz; b text; ^a text; procedure h is begin null; end; end;", api.ErrTwice, "a"},
		expected{"create package q is a int; ^procedure a is begin null; end; end;", api.ErrTwice, "a"},
		expected{"create package q is a int := zzz; procedure h is begin zzz; end; private ^function h return int is begin null; end; end;", api.ErrTwice, "h"},
		expected{"create package q is a int := zzz; b int; ^cursor b is select x from t; end;", api.ErrTwice, "b"},
		expected{"create package q is a int; ^cursor c is select zzz from none; b int := zzz; end;", api.ErrKind, "c"},
		expected{"create package q is a int := ^zzz; cursor c is select x from t; end;", api.ErrName, "zzz"},
		expected{"create package q is a int := ^b; b int; end;", api.ErrName, "b"},
		expected{"create package q is a int := ^a; end;", api.ErrName, "a"},
		expected{"create package q is a int := ^'x'; procedure h is begin zzz; end; end;", api.ErrType, ""},
		expected{"create package q is a int := ^h; procedure h is begin zzz; end; end;", api.ErrKind, "h"},
		expected{"create package q is procedure h is begin ^zzz; end; procedure i is begin none; end; end;", api.ErrName, "zzz"},
		expected{"create package q is procedure h is begin null; end; procedure i (a int, ^a int) is begin none; end; end;", api.ErrTwice, "a"},
		expected{"create package q is private procedure h is begin null; end; procedure i is begin ^q.h; end; end;", api.ErrName, "q.h"},
		expected{"create package q is procedure h is begin ^q; end; end;", api.ErrKind, "q"},
		expected{"create package q is procedure h is a int; begin null; end; procedure i is begin ^a := 1; end; end;", api.ErrName, "a"},
		expected{"create package q is procedure h (a int) is begin null; end; procedure i is begin ^a := 1; end; end;", api.ErrName, "a"},
	)
}

// P10.1: triggers.
func TestTriggers(t *testing.T) {
	x := call{world(t), "u"}
	x.expectRight(t,
		"create trigger g1 before insert or update of x, nix or delete on t for each row when (:new.x > :old.x and :new.z) begin :new.x := :old.x + 1; :new.z := null; :new.y := :new.y || :old.y; end;",
		"create trigger g1 after update on t for each row when (null) declare a int := :new.x; begin put(:old.y || :new.y); a := :old.x; end;",
		"create trigger g1 after update on t for each row when (x > 1 and t.y is null) begin null; end;",
		"create trigger w.g1 before delete on u.t for each row begin :new.x := 1; end;",
		"create trigger g1 before delete on w.t for each row begin :new.d := :old.d; end;",
		"create trigger g1 before delete on t declare x int; begin x := 1; end;",
		"create trigger g1 before delete on t for each row begin begin :new.x := 1; exception when others then :new.x := 2; end; end;",
	)
	each := func(when, body string) string {
		return "create trigger g1 " + when + " begin " + body + " end;"
	}
	x.expectAll(t,
		expected{"create trigger g1 before insert on t for each row when (:new.x > ^:new.a) begin zzz; end;", api.ErrName, "new.a"},
		expected{"create trigger g1 before insert on t for each row when (^:new.x) begin zzz; end;", api.ErrType, "new.x"},
		expected{"create trigger g1 before insert on t for each row when (^1) begin zzz; end;", api.ErrType, ""},
		expected{"create trigger g1 before insert on t for each row when (:new.x ^> 'a') begin zzz; end;", api.ErrType, ">"},
		expected{"create trigger g1 before insert on t for each row when (^sqlcode = 1) begin zzz; end;", api.ErrName, "sqlcode"},
		expected{"create trigger g1 before insert on t for each row when (^f(1) = 1) begin zzz; end;", api.ErrName, "f"},
		expected{"create trigger g1 before insert on t for each row when (^exists (select x from t)) begin zzz; end;", api.ErrKind, ""},
		expected{each("before insert on t for each row", ":new.x := 1; ^:new.a := zzz;"), api.ErrName, "new.a"},
		expected{each("after insert on t for each row", "^:new.x := zzz;"), api.ErrKind, "new.x"},
		expected{each("after insert on t for each row", "^:new.a := zzz;"), api.ErrName, "new.a"},
		expected{each("before insert on t", "^:new.x := zzz;"), api.ErrName, "new.x"},
		expected{each("after insert on t", "put(^:old.x);"), api.ErrName, "old.x"},
		expected{each("before insert on t for each row", ":new.x := ^'a';"), api.ErrType, ""},
		expected{each("before insert on t for each row", ":new.x := ^:old.y;"), api.ErrType, "old.y"},
		expected{each("before insert on t for each row", "put(^x);"), api.ErrName, "x"},
		expected{each("before insert on t for each row", "^g1;"), api.ErrKind, "g1"},
		expected{each("before insert on w.t for each row", "put(^:new.x);"), api.ErrName, "new.x"},
		expected{"create procedure q is begin put(^:new.x); end;", api.ErrName, "new.x"},
	)
}

// P10.1: a trigger whose table is not there, or none, in the catalog.
func TestTriggerWithoutTable(t *testing.T) {
	d := defOf(t, "create trigger g1 before insert on u.t for each row when (:new.none) begin zzz; end;")
	u := d.Object.Unit[0]
	at := api.Fault{Code: api.ErrName, Name: "u.t", Line: 1, Col: 8}
	for _, l := range [][]string{nil, {"u: create view t as select a from t;"}, {"u: create procedure t is begin null; end;"}, {"w: create table t (a int);"}} {
		x := call{after(t, users(t, "u", "w"), l...), "u"}
		if _, f := x.unit(t, "u", "g1", api.OTrigger, u); f != at {
			t.Error(l, f)
		}
	}
	x := call{after(t, users(t, "u"), "u: create table t (a int);"), "u"}
	if _, f := x.unit(t, "u", "g1", api.OTrigger, u); f != (api.Fault{Code: api.ErrName, Name: "new.none", Line: 1, Col: 59}) {
		t.Error(f)
	}
	// the path that counts is that of the table's owner, whoever owns the trigger
	if _, f := (call{after(t, x.c, "u: create user w;"), "u"}).unit(t, "w", "g1", api.OTrigger, u); f.Name != "new.none" {
		t.Error(f)
	}
}

// P10.1, P10.2, P10.5: what is not valid is ErrArg, without a name and a position.
func TestUnitArguments(t *testing.T) {
	c := world(t)
	procedure := defOf(t, "create procedure q is begin zzz; end;").Object.Unit[0]
	pack := defOf(t, "create package q is procedure q is begin zzz; end; end;").Object.Unit[0]
	trigger := defOf(t, "create trigger q before insert on u.t begin zzz; end;").Object.Unit[0]
	short := defOf(t, "create trigger q before insert on t begin zzz; end;").Object.Unit[0]
	broken := copied(c)
	broken.Users = []string{"w", "u"}
	bad := copied(procedure)
	bad.Subs[0].Block.Body[0].Op = 99
	for i, one := range []struct {
		c           api.Catalog
		owner, name string
		kind        api.ObjKind
		u           api.Unit
		code        api.Errno
	}{
		{c, "u", "q", api.OProc, procedure, api.ErrName},
		{c, "w", "q", api.OProc, procedure, api.ErrName},
		{c, "u", "q", api.OPackage, pack, api.ErrName},
		{c, "u", "r", api.OPackage, pack, api.ErrName},
		{c, "u", "q", api.OTrigger, trigger, api.ErrName},
		{broken, "u", "q", api.OProc, procedure, api.ErrArg},
		{api.Catalog{}, "u", "q", api.OProc, procedure, api.ErrArg},
		{c, "x", "q", api.OProc, procedure, api.ErrArg},
		{c, "", "q", api.OProc, procedure, api.ErrArg},
		{c, "u", "p", api.OProc, procedure, api.ErrArg},
		{c, "u", "begin", api.OPackage, pack, api.ErrArg},
		{c, "u", "", api.OPackage, pack, api.ErrArg},
		{c, "u", "Q", api.OPackage, pack, api.ErrArg},
		{c, "u", strings.Repeat("q", 31), api.OPackage, pack, api.ErrArg},
		{c, "u", "q", api.OTable, procedure, api.ErrArg},
		{c, "u", "q", api.OView, procedure, api.ErrArg},
		{c, "u", "q", 0, procedure, api.ErrArg},
		{c, "u", "q", 99, procedure, api.ErrArg},
		{c, "u", "q", -1, procedure, api.ErrArg},
		{c, "u", "q", api.OTrigger, procedure, api.ErrArg},
		{c, "u", "q", api.OProc, trigger, api.ErrArg},
		{c, "u", "q", api.OTrigger, short, api.ErrArg},
		{c, "u", "r", api.OTrigger, trigger, api.ErrArg},
		{c, "u", "q", api.OProc, api.Unit{}, api.ErrArg},
		{c, "u", "q", api.OProc, bad, api.ErrArg},
	} {
		_, f := call{one.c, "u"}.unit(t, one.owner, one.name, one.kind, one.u)
		if f.Code != one.code || f.Code == api.ErrArg && f != (api.Fault{Code: api.ErrArg}) {
			t.Error(i, f)
		}
	}
	block := blockOf(t, "begin zzz; end;")
	badBlock := copied(block)
	badBlock.Body[0].Path = nil
	for i, f := range []api.Fault{check.Block(broken, "u", block), check.Block(c, "x", block), check.Block(c, "", block), check.Block(c, "u", badBlock)} {
		if f != (api.Fault{Code: api.ErrArg}) {
			t.Error(i, f)
		}
	}
	if f := check.Block(c, "u", api.Block{}); f != (api.Fault{}) {
		t.Error(f)
	}
}

// Array declarations with an Init, and triggers with a When that are not for each row, are no valid units (layer 5).
func TestNeverValid(t *testing.T) {
	c := world(t)
	u := defOf(t, "create procedure q is l array of int; begin null; end;").Object.Unit[0]
	u.Subs[0].Block.Decls[0].Init = []api.Expr{{Op: api.EConst}}
	if f := check.Unit(c, "u", "q", api.OProc, u); f.Code != api.ErrArg {
		t.Error(f)
	}
	g := defOf(t, "create trigger q before insert on u.t for each row when (true) begin null; end;").Object.Unit[0]
	g.On[0].Each = false
	if f := check.Unit(c, "u", "q", api.OTrigger, g); f.Code != api.ErrArg {
		t.Error(f)
	}
}

// P10.1: a package in the catalog whose names stand twice: a path means the first of them.
func TestFaultyPackage(t *testing.T) {
	c := after(t, users(t, "u"), "u: create package q is a int; a text; cursor c is select x from t; procedure a is begin null; end; private procedure b is begin null; end; procedure b (x int) is begin null; end; end;")
	x := call{c, "u"}
	x.expectRight(t, "begin q.a := 1; q.b(1); end;")
	x.expectAll(t,
		expected{"begin q.a := ^'x'; end;", api.ErrType, ""},
		expected{"begin ^q.a; end;", api.ErrKind, "q.a"},
		expected{"begin put(^q.c); end;", api.ErrKind, "q.c"},
	)
	if ok, code := check.Right(c, "u", "q"); ok || code != api.OK {
		t.Error(ok, code)
	}
	if _, code := catalog.Find(c, "u", "q"); code != api.OK {
		t.Error(code)
	}
}
