package unit_test

import "justiciar/api"

// object returns an object with a path and kind.
func object(kind api.ObjKind, p string) api.Object {
	names := append([]string{""}, path(p)...)
	return api.Object{Owner: names[len(names)-2], Name: names[len(names)-1], Kind: kind}
}

func created(o api.Object) api.Def { return api.Def{Op: api.FCreate, Object: o} }

func replaced(o api.Object) api.Def { return api.Def{Op: api.FCreate, Replace: true, Object: o} }

func table(p string, cols []api.Column, cons ...api.Constraint) api.Object {
	o := object(api.OTable, p)
	o.Table = []api.Table{{Cols: cols, Cons: cons}}
	return o
}

func column(name string, base api.Kind) api.Column { return api.Column{Name: name, Type: base} }

// abc returns three columns.
func abc() []api.Column {
	return []api.Column{column("a", api.VInt), column("b", api.VText), column("c", api.VBool)}
}

func keys(op api.ConOp, name, cols string) api.Constraint {
	return api.Constraint{Op: op, Name: name, Cols: path(cols)}
}

func foreign(name, cols, to string) api.Constraint {
	return api.Constraint{Op: api.KForeign, Name: name, Cols: path(cols), Table: path(to)}
}

func check(name, e string) api.Constraint {
	return api.Constraint{Op: api.KCheck, Name: name, Expr: exs(e)}
}

func late(c api.Constraint) api.Constraint {
	c.Late = true
	return c
}

func view(p, q string) api.Object {
	o := object(api.OView, p)
	o.View = []api.Query{qu(q)}
	return o
}

func index(p, to, cols string) api.Object {
	o := object(api.OIndex, p)
	o.Index = []api.Index{{On: path(to), Cols: path(cols)}}
	return o
}

func sequence(p string, start, by, cache int) api.Object {
	o := object(api.OSerial, p)
	o.Serial = []api.Serial{{Start: start, By: by, Cache: cache}}
	return o
}

func param(name string, mode api.Mode, base api.Kind) api.Param {
	return api.Param{Name: name, Mode: mode, Type: api.Type{Base: base}}
}

func procedure(name string, b api.Block, l ...api.Param) api.Sub {
	return api.Sub{Name: name, Block: b, Params: l}
}

func function(name string, ret api.Kind, b api.Block, l ...api.Param) api.Sub {
	return api.Sub{Name: name, Fun: true, Ret: api.Type{Base: ret}, Block: b, Params: l}
}

func autonomous(s api.Sub) api.Sub {
	s.Auto = true
	return s
}

func private(s api.Sub) api.Sub {
	s.Private = true
	return s
}

// program returns a procedure or function, as an object with its name, and perhaps an owner.
func program(owner string, s api.Sub) api.Object {
	return api.Object{Owner: owner, Name: s.Name, Kind: api.OProc, Unit: []api.Unit{{Subs: []api.Sub{s}}}}
}

func pack(p string, decls []api.Decl, subs ...api.Sub) api.Object {
	o := object(api.OPackage, p)
	o.Unit = []api.Unit{{Decls: decls, Subs: subs}}
	return o
}

func invoker(o api.Object) api.Object {
	o.Unit[0].Invoker = true
	return o
}

func trigger(p string, b api.Block, g api.Trigger) api.Object {
	o := object(api.OTrigger, p)
	o.Unit = []api.Unit{{Subs: []api.Sub{{Name: o.Name, Block: b}}, On: []api.Trigger{g}}}
	return o
}

func event(op api.ChangeOp, cols ...string) api.Event { return api.Event{Op: op, Cols: cols} }

func events(l ...api.Event) []api.Event { return l }

// dropped returns the definition that drops an object; fun for functions.
func dropped(kind api.ObjKind, p string, fun bool) api.Def {
	d := api.Def{Op: api.FDrop, Path: path(p), Object: api.Object{Kind: kind}}
	if kind == api.OProc {
		d.Object.Unit = []api.Unit{{Subs: []api.Sub{{Fun: fun}}}}
	}
	return d
}

func altering(p, name string, base api.Kind) api.Def {
	return api.Def{Op: api.FAdd, Path: path(p), Object: api.Object{Kind: api.OTable, Table: []api.Table{{Cols: []api.Column{column(name, base)}}}}}
}

func granted(op api.DefOp, r api.Right, p, to string) api.Def {
	return api.Def{Op: op, Right: r, Path: path(p), To: to}
}

// wide returns a table that has all that one may have.
func wide() api.Object {
	cols := abc()
	cols[0].Default, cols[0].NotNull = exs("- 1"), true
	cols[1].Default = exs("a || 'x'")
	cols[2].NotNull = true
	return table("u.t", cols, late(keys(api.KPrimary, "p", "a")), keys(api.KUnique, "q", "c.b"), late(foreign("f", "b.a", "v.w")), check("r", "a > 0 or exists (select * from t)"), late(check("s", "c")), foreign("g", "a", "t"))
}

const wideText = "create table u . t ( a int default ( - 1 ) not null , b text default ( a || 'x' ) , c bool not null , constraint p primary key ( a ) deferred , constraint q unique ( c , b ) , constraint f foreign key ( b , a ) references v . w deferred , constraint r check ( ( a > 0 ) or exists ( select * from t ) ) , constraint s check ( c ) deferred , constraint g foreign key ( a ) references t ) ;"

// full returns a function that has all that one may have.
func full() api.Sub {
	array := param("e", api.InOut, api.VBool)
	array.Type.Array = true
	return autonomous(function("f", api.VText, rich(), param("a", api.In, api.VInt), param("b", api.In, api.VText), param("c", api.Out, api.VBool), array))
}

var fullText = "( a in int , b in text , c out bool , e in out array of bool ) return text autonomous is " + richText[len("declare "):]

// tableSamples returns definitions of tables, indexes, sequences and views.
func tableSamples() []sample[api.Def] {
	one := []api.Column{column("a", api.VInt)}
	filled := func(e string, not bool) []api.Column {
		return []api.Column{{Name: "a", Type: api.VInt, Default: exs(e), NotNull: not}}
	}
	return []sample[api.Def]{
		{"create table t (a int);", created(table("t", one)), "create table t ( a int ) ;"},
		{"create table u.t(a int,b text,c bool);", created(table("u.t", abc())), "create table u . t ( a int , b text , c bool ) ;"},
		{wideText, created(wide()), wideText},
		{"create table t (constraint p check (a), a int, constraint q unique (a), b text, c bool);", created(table("t", abc(), check("p", "a"), keys(api.KUnique, "q", "a"))), "create table t ( a int , b text , c bool , constraint p check ( a ) , constraint q unique ( a ) ) ;"},
		{"create table t (a int default (b is not null) not null);", created(table("t", filled("b is not null", true))), "create table t ( a int default ( b is not null ) not null ) ;"},
		{"create table t (a int default b + 1);", created(table("t", filled("b + 1", false))), "create table t ( a int default ( b + 1 ) ) ;"},
		{"create table t (a int default (select a from t));", created(table("t", filled("(select a from t)", false))), "create table t ( a int default ( select a from t ) ) ;"},
		{"create index i on t (a);", created(index("i", "t", "a")), "create index i on t ( a ) ;"},
		{"create index u.i on v.t(b,a);", created(index("u.i", "v.t", "b.a")), "create index u . i on v . t ( b , a ) ;"},
		{"create sequence s start 1 by 1 cache 1;", created(sequence("s", 1, 1, 1)), "create sequence s start 1 by 1 cache 1 ;"},
		{"create sequence u.s start -5 by -2 cache 100;", created(sequence("u.s", -5, -2, 100)), "create sequence u . s start - 5 by - 2 cache 100 ;"},
		{"create sequence s start - 1099511627776 by 1099511627776 cache 7;", created(sequence("s", -api.MaxInt, api.MaxInt, 7)), "create sequence s start - 1099511627776 by 1099511627776 cache 7 ;"},
		{"create sequence s start -0 by 1 cache 7;", created(sequence("s", 0, 1, 7)), "create sequence s start 0 by 1 cache 7 ;"},
		{"create view v as select a from t;", created(view("v", "select a from t")), "create view v as select a from t ;"},
		{"create or replace view u.v as select * from t where a order by b;", replaced(view("u.v", "select * from t where a order by b")), "create or replace view u . v as select * from t where a order by b ;"},
	}
}

// programSamples returns definitions of programs.
func programSamples() []sample[api.Def] {
	decls := []api.Decl{variable("x", api.VInt, "1"), exception("e"), declared("c", "select a from t for update")}
	before := api.Trigger{Before: true, Each: true, Events: events(event(api.CInsert), event(api.CUpdate, "a", "b", "a"), event(api.CDelete), event(api.CUpdate)), On: path("v.t"), When: exs(":new.a > 1")}
	p, q := procedure("p", small()), procedure("q", api.Block{})
	return []sample[api.Def]{
		{"create procedure p is begin null; end;", created(program("", p)), "create procedure p is begin null ; end ;"},
		{"create or replace procedure u.p is begin null; end;", replaced(program("u", p)), "create or replace procedure u . p is begin null ; end ;"},
		{"create procedure p (a int) autonomous is b int; begin exception when c then end;", created(program("", autonomous(procedure("p", api.Block{Decls: []api.Decl{variable("b", api.VInt)}, When: []api.Handler{handler("c")}}, param("a", api.In, api.VInt))))), "create procedure p ( a in int ) autonomous is b int ; begin exception when c then end ;"},
		{"create function f return bool is begin null; end;", created(program("", function("f", api.VBool, small()))), "create function f return bool is begin null ; end ;"},
		{"create function f (a int, b in text, c out bool, e in out array of bool) return text autonomous is " + richText[len("declare "):], created(program("", full())), "create function f " + fullText},
		{"create or replace invoker function u.f" + fullText, replaced(invoker(program("u", full()))), "create or replace invoker function u . f " + fullText},
		{"create invoker procedure p is begin null; end;", created(invoker(program("", p))), "create invoker procedure p is begin null ; end ;"},
		{"create package k is end;", created(pack("k", nil)), "create package k is end ;"},
		{"create or replace invoker package u.k is end;", replaced(invoker(pack("u.k", nil))), "create or replace invoker package u . k is end ;"},
		{"create package k is x int := 1; e exception; cursor c is select a from t for update; end;", created(pack("k", decls)), "create package k is x int := 1 ; e exception ; cursor c is select a from t for update ; end ;"},
		{"create package k is private procedure q is begin end; procedure p is begin null; end; end;", created(pack("k", nil, private(q), p)), "create package k is private procedure q is begin end ; procedure p is begin null ; end ; end ;"},
		{"create package k is procedure p is begin null; end; x int := 1; private function f " + fullText + " e exception; procedure q is begin end; cursor c is select a from t for update; end;", created(pack("k", decls, p, private(full()), q)), "create package k is x int := 1 ; e exception ; cursor c is select a from t for update ; procedure p is begin null ; end ; private function f " + fullText + " procedure q is begin end ; end ;"},
		{"create trigger g after insert on t begin end;", created(trigger("g", api.Block{}, api.Trigger{Events: events(event(api.CInsert)), On: path("t")})), "create trigger g after insert on t begin end ;"},
		{"create trigger g after delete on t for each row begin null; end;", created(trigger("g", small(), api.Trigger{Each: true, Events: events(event(api.CDelete)), On: path("t")})), "create trigger g after delete on t for each row begin null ; end ;"},
		{"create or replace trigger u.g before insert or update of a, b, a or delete or update on v.t for each row when (:new.a > 1) " + richText, replaced(trigger("u.g", rich(), before)), "create or replace trigger u . g before insert or update of a , b , a or delete or update on v . t for each row when ( : new . a > 1 ) " + richText},
	}
}

// defSamples returns definitions of all kinds.
func defSamples() []sample[api.Def] {
	return append(append(tableSamples(), programSamples()...), []sample[api.Def]{
		{"drop table t;", dropped(api.OTable, "t", false), "drop table t ;"},
		{"drop view u.v;", dropped(api.OView, "u.v", false), "drop view u . v ;"},
		{"drop index i;", dropped(api.OIndex, "i", false), "drop index i ;"},
		{"drop sequence s;", dropped(api.OSerial, "s", false), "drop sequence s ;"},
		{"drop procedure p;", dropped(api.OProc, "p", false), "drop procedure p ;"},
		{"drop function u.f;", dropped(api.OProc, "u.f", true), "drop function u . f ;"},
		{"drop package k;", dropped(api.OPackage, "k", false), "drop package k ;"},
		{"drop trigger g;", dropped(api.OTrigger, "g", false), "drop trigger g ;"},
		{"alter table t add a int;", altering("t", "a", api.VInt), "alter table t add a int ;"},
		{"alter table u.t add a bool;", altering("u.t", "a", api.VBool), "alter table u . t add a bool ;"},
		{"grant select on t to all;", granted(api.FGrant, api.RSelect, "t", "all"), "grant select on t to all ;"},
		{"grant insert on u.t to a;", granted(api.FGrant, api.RInsert, "u.t", "a"), "grant insert on u . t to a ;"},
		{"grant update on t to a;", granted(api.FGrant, api.RUpdate, "t", "a"), "grant update on t to a ;"},
		{"revoke delete on t from a;", granted(api.FRevoke, api.RDelete, "t", "a"), "revoke delete on t from a ;"},
		{"revoke execute on u.p from all;", granted(api.FRevoke, api.RExecute, "u.p", "all"), "revoke execute on u . p from all ;"},
		{"create user a;", api.Def{Op: api.FUser, To: "a"}, "create user a ;"},
	}...)
}
