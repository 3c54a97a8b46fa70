package catalog_test

import (
	"fmt"
	"reflect"
	"slices"
	"strings"
	"testing"

	"justiciar/api"
	"justiciar/catalog"
)

// expectChange expects that a definition changes a catalog as a closure does, in which a Stamp more has come.
func expectChange(t *testing.T, c api.Catalog, s string, change func(c *api.Catalog)) api.Catalog {
	t.Helper()
	old := copied(c)
	n := after(t, c, s)
	expectSame(t, s, n, with(c, func(c *api.Catalog) { c.Stamp++; change(c) }))
	_, text, _ := strings.Cut(s, ": ")
	kept := copied(n)
	if scribble(&n); !equal(c, old) {
		t.Fatalf("%s: the argument has changed", text)
	}
	return kept
}

// made returns the object that a definition makes, with an owner, and a Stamp.
func made(t *testing.T, s, owner string, stamp int) api.Object {
	t.Helper()
	o := def(t, s).Object
	o.Owner, o.Stamp, o.Valid = owner, stamp, true
	return o
}

// put puts an object where it belongs.
func put(c *api.Catalog, o api.Object) {
	c.Objects = append(c.Objects, o)
	slices.SortFunc(c.Objects, func(a, b api.Object) int {
		return compareKeys([2]string{a.Owner, a.Name}, [2]string{b.Owner, b.Name})
	})
}

// TestCreate: P6.4, of each kind.
func TestCreate(t *testing.T) {
	c := world(t)
	for _, x := range []struct {
		user, text, owner string
		settle            func(o *api.Object)
	}{
		{"ann", "create table z (a int default -1, b text not null, constraint x check (a > 0) deferred);", "ann", nil},
		{"bob", "create table ann.z (a int);", "ann", nil},
		{"cy", "create table a (a int);", "cy", nil},
		{"ann", "create table z (a int, constraint f foreign key (a) references t);", "ann", func(o *api.Object) { o.Table[0].Cons[0].Table = []string{"ann", "t"} }},
		{"ann", "create table bob.z (a int, constraint f foreign key (a) references t, constraint g foreign key (a) references ann.t);", "bob", func(o *api.Object) { o.Table[0].Cons[0].Table = []string{"ann", "t"} }},
		{"ann", "create table z (a int, b text, constraint f foreign key (b, a) references z, constraint p primary key (b, a));", "ann", func(o *api.Object) { o.Table[0].Cons[0].Table = []string{"ann", "z"} }},
		{"ann", "create table bob.z (a int, constraint f foreign key (a) references bob.z, constraint p primary key (a));", "bob", nil},
		{"ann", "create index z on t (c, a, b);", "ann", func(o *api.Object) { o.Index[0].On = []string{"ann", "t"} }},
		{"bob", "create index cy.z on d (a);", "cy", func(o *api.Object) { o.Index[0].On = []string{"bob", "d"} }},
		{"bob", "create index z on ann.t (b);", "bob", nil},
		{"bob", "create sequence ann.z start -7 by 3 cache 100;", "ann", nil},
		{"bob", "create view z as select x from nowhere, t, ann.t;", "bob", nil},
		{"bob", "create or replace view z as select * from d order by a;", "bob", nil},
		{"bob", "create procedure ann.z is begin t; ann.t(t); end;", "ann", nil},
		{"bob", "create or replace invoker function z (a int, b out text) return int autonomous is begin return 1; end;", "bob", nil},
		{"bob", "create package z is x int; private procedure z is begin null; end; end;", "bob", nil},
		{"ann", "create trigger bob.z after insert or update of b on t begin null; end;", "bob", func(o *api.Object) { o.Unit[0].On[0].On = []string{"ann", "t"} }},
		{"bob", "create or replace trigger z before delete on ann.t for each row when (:old.a = 1) begin null; end;", "bob", nil},
	} {
		d := def(t, x.text)
		n, code := catalog.Do(c, x.user, d)
		want := with(c, func(c *api.Catalog) {
			c.Stamp++
			o := made(t, x.text, x.owner, c.Stamp)
			if x.settle != nil {
				x.settle(&o)
			}
			put(c, o)
		})
		if code != api.OK || !equal(n, want) || !catalog.Valid(n) { // positions stay, too
			t.Errorf("%s: error %d, %s\nwant\n%s", x.text, code, encoded(n), encoded(want))
		}
		old, oldDef := copied(c), copied(d)
		if scribble(&n); !equal(c, old) || !equal(d, oldDef) {
			t.Fatalf("%s: shares memory with an argument", x.text)
		}
	}
}

// TestCreateRefused: P6.4, the errors of FCreate.
func TestCreateRefused(t *testing.T) {
	c := after(t, world(t), "cy: create table t2 (a int, b int, constraint p primary key (b, a), constraint u unique (a));", "cy: create procedure p is begin null; end;", "cy: create trigger g after delete on t2 begin null; end;")
	for _, kind := range []string{"table %s (a int)", "index %s on ann.t (a)", "sequence %s start 1 by 1 cache 1", "view %s as select a from t", "procedure %s is begin null; end", "function %s return int is begin return 1; end", "package %s is end", "trigger %s after insert on ann.t begin null; end"} {
		refused := func(path string, code api.Errno) {
			t.Helper()
			expectRefused(t, c, code, "bob: create "+fmt.Sprintf(kind, path)+";")
		}
		refused("dan.z", api.ErrName)
		refused("z.t", api.ErrName)
		for _, name := range strings.Fields("t child i s v p f k g") {
			refused("ann."+name, api.ErrTwice)
		}
		refused("d", api.ErrTwice)
		refused("bob.w", api.ErrTwice)
	}
	for _, x := range []struct {
		code api.Errno
		text string
	}{
		{api.ErrTwice, "ann: create or replace view t as select a from t;"},
		{api.ErrTwice, "ann: create or replace view p as select a from t;"},
		{api.ErrTwice, "ann: create or replace procedure v is begin null; end;"},
		{api.ErrTwice, "ann: create or replace procedure k is begin null; end;"},
		{api.ErrTwice, "ann: create or replace package p is end;"},
		{api.ErrTwice, "ann: create or replace package g is end;"},
		{api.ErrTwice, "ann: create or replace trigger v after insert on t begin null; end;"},
		{api.ErrTwice, "ann: create or replace trigger i after insert on t begin null; end;"},
		{api.ErrName, "ann: create or replace view dan.v as select a from t;"},
		{api.ErrName, "ann: create or replace trigger g after insert on v begin null; end;"},
		{api.ErrTwice, "ann: create index i on nothing (a);"}, // the first one counts
		{api.ErrName, "ann: create index z on nothing (a);"},
		{api.ErrName, "bob: create index ann.z on t (a);"}, // the path is bob's
		{api.ErrName, "ann: create index z on v (a);"},
		{api.ErrName, "ann: create index z on i (a);"},
		{api.ErrName, "ann: create index z on t (x);"},
		{api.ErrName, "ann: create index z on t (a, b, x);"},
		{api.ErrName, "ann: create index z on t (pk);"},
		{api.ErrName, "ann: create trigger z after insert on nothing begin null; end;"},
		{api.ErrName, "bob: create trigger ann.z after insert on t begin null; end;"},
		{api.ErrName, "ann: create trigger z after insert on v begin null; end;"},
		{api.ErrName, "ann: create trigger z after insert on z begin null; end;"},
		{api.ErrTwice, "ann: create table t (a int, constraint f foreign key (a) references nothing);"},
		{api.ErrName, "ann: create table z (a int, constraint f foreign key (a) references nothing);"},
		{api.ErrName, "bob: create table ann.z (a int, constraint f foreign key (a) references t);"},
		{api.ErrName, "bob: create table ann.z (a int, constraint p primary key (a), constraint f foreign key (a) references z);"},
		{api.ErrName, "ann: create table z (a int, constraint f foreign key (a) references v);"},
		{api.ErrName, "ann: create table z (a int, constraint f foreign key (a) references p);"},
		{api.ErrName, "ann: create table z (a text, constraint f foreign key (a) references t);"},
		{api.ErrName, "ann: create table z (a int, b int, constraint f foreign key (a, b) references t);"},
		{api.ErrName, "ann: create table z (a int, constraint f foreign key (a) references z);"},
		{api.ErrName, "ann: create table z (a int, constraint u unique (a), constraint f foreign key (a) references z);"},
		{api.ErrName, "ann: create table z (a int, b text, constraint p primary key (a, b), constraint f foreign key (b, a) references z);"},
		{api.ErrName, "ann: create table z (a int, constraint f foreign key (a) references cy.t2);"},
		{api.ErrName, "ann: create table z (a int, b text, constraint f foreign key (a, b) references cy.t2);"},
		{api.ErrName, "ann: create table z (a int, constraint g foreign key (a) references t, constraint f foreign key (a) references child);"},
	} {
		expectRefused(t, c, x.code, x.text)
	}
	after(t, c, "ann: create table z (a int, b int, constraint f foreign key (a, b) references cy.t2, constraint g foreign key (b, a) references cy.t2);")
}

// TestMany: P6.4, with as many objects, or users, as there may be.
func TestMany(t *testing.T) {
	c := after(t, users(t, "ann", "bob"), "ann: create view v as select a from t;", "ann: create table t (a int);")
	for i := len(c.Objects); i < api.MaxObjects; i++ {
		c = after(t, c, fmt.Sprintf("ann: create sequence bob.n%d start 1 by 1 cache 1;", i))
	}
	for _, s := range []string{"table z (a int)", "index z on nothing (a)", "index z on t (a)", "view bob.v as select a from t", "or replace view z as select a from t", "table z (a int, constraint f foreign key (a) references z)", "trigger z after insert on nothing begin null; end"} {
		expectRefused(t, c, api.ErrLimit, "ann: create "+s+";")
	}
	expectRefused(t, c, api.ErrName, "ann: create table cy.z (a int);")
	expectRefused(t, c, api.ErrTwice, "ann: create table t (a int);")
	expectRefused(t, c, api.ErrTwice, "ann: create or replace package v is end;")
	after(t, c, "ann: create or replace view v as select b from t;", "ann: create user cy;", "ann: grant select on v to cy;", "bob: drop sequence n10;", "ann: create index z on t (a);")
	for len(c.Users) < api.MaxUsers {
		c = after(t, c, "bob: create user "+[]string{"z", "b", "annie", "y", "an", "c"}[len(c.Users)-2]+";")
	}
	expectRefused(t, c, api.ErrLimit, "ann: create user d;")
	expectRefused(t, c, api.ErrTwice, "ann: create user annie;")
	if !slices.Equal(c.Users, strings.Fields("an ann annie b bob c y z")) {
		t.Errorf("users: %q", c.Users)
	}
}

// TestStamps: P6.4. Beyond MaxInt nothing is defined any more.
func TestStamps(t *testing.T) {
	c := with(world(t), func(c *api.Catalog) { c.Stamp = api.MaxInt - 1 })
	c = after(t, c, "ann: alter table t add d int;")
	if c.Stamp != api.MaxInt || at(t, &c, "ann.t").Stamp != api.MaxInt {
		t.Errorf("Stamp %d", c.Stamp)
	}
	for _, s := range []string{"create user dan", "create user ann", "create table t (a int)", "drop view t", "alter table t add e int", "grant select on t to bob", "revoke select on nothing from bob"} {
		expectRefused(t, c, api.ErrLimit, "ann: "+s+";")
	}
	expectError(t, "a user that is none", c, api.ErrArg, "dan", def(t, "create user dan;"))
	expectError(t, "no definition", c, api.ErrArg, "ann", api.Def{})
}

// TestArguments: P6.4, what is not valid.
func TestArguments(t *testing.T) {
	c := world(t)
	for _, user := range []string{"", "all", "dan", "ann ", "t"} {
		expectError(t, "the user "+user, c, api.ErrArg, user, def(t, "create user eve;"))
		expectError(t, "the user "+user, c, api.ErrArg, user, def(t, "create user ann;"))
	}
	for i, change := range []func(d *api.Def){
		func(d *api.Def) { d.Op = 0 },
		func(d *api.Def) { d.Op = api.FUser + 1 },
		func(d *api.Def) { d.Replace = true },
		func(d *api.Def) { d.To = "bob" },
		func(d *api.Def) { d.Line = -1 },
		func(d *api.Def) { d.Object.Stamp = 1 },
		func(d *api.Def) { d.Object.Valid = true },
		func(d *api.Def) { d.Object.Kind = 0 },
		func(d *api.Def) { d.Object.Owner = "all" },
		func(d *api.Def) { d.Object.Name = "" },
		func(d *api.Def) { d.Object.Table[0].Cols = nil },
		func(d *api.Def) { d.Object.Table[0].Cols[0].Type = 0 },
		func(d *api.Def) { d.Path = []string{"t"} },
	} {
		d := def(t, "create table t (a int);")
		change(&d)
		expectError(t, fmt.Sprint("change ", i), c, api.ErrArg, "ann", d)
	}
	for _, s := range []string{"drop function f;", "alter table t add z int;", "grant select on nothing to all;", "revoke select on t from cy;"} {
		d := def(t, s)
		d.Path = append(d.Path, "a", "b")
		expectError(t, s, c, api.ErrArg, "ann", d)
		d = def(t, s)
		d.Path = nil
		expectError(t, s, c, api.ErrArg, "ann", d)
	}
}

// TestReplace: P6.4. What is replaced keeps its rights, and what hung on it, or then hangs on it, is not Valid.
func TestReplace(t *testing.T) {
	c := world(t)
	for _, x := range []struct{ text, key, stale string }{
		{"create or replace view v as select x, y from child where y = 'x';", "ann.v", "ann.f ann.g ann.k ann.p bob.w"},
		{"create or replace procedure p is begin null; end;", "ann.p", "ann.f ann.g ann.k"},
		{"create or replace function p return int is begin return 1; end;", "ann.p", "ann.f ann.g ann.k"},
		{"create or replace procedure f is begin p; end;", "ann.f", "ann.g ann.k"},
		{"create or replace package k is end;", "ann.k", "ann.g"},
		{"create or replace package ann.k is procedure q is begin g; end; end;", "ann.k", "ann.g"},
		{"create or replace trigger g after delete on ann.child begin null; end;", "ann.g", ""},
	} {
		n := expectChange(t, c, "ann: "+x.text, func(c *api.Catalog) {
			*at(t, c, x.key) = made(t, x.text, "ann", c.Stamp)
			for _, key := range strings.Fields(x.stale) {
				at(t, c, key).Valid = false
			}
		})
		for _, o := range n.Objects { // it becomes Valid again, and nothing else does
			if marked, code := catalog.Mark(n, o.Owner, o.Name, false); code == api.OK {
				n = marked
			}
		}
		expectChange(t, n, "ann: "+x.text, func(c *api.Catalog) { *at(t, c, x.key) = made(t, x.text, "ann", c.Stamp) })
	}
	n := after(t, c, "bob: create or replace view ann.v as select a from d;")
	expectKeys(t, "Names", catalog.Names, n, "ann.v", "") // bob's table is not meant
	if len(n.Grants) != len(c.Grants) {
		t.Errorf("grants: %v", n.Grants)
	}
}

// TestStale: P6.4. What hung on an object before, or hangs on it then, is not Valid any more.
func TestStale(t *testing.T) {
	c := after(t, users(t, "ann", "b"),
		"ann: create view v as select x from t;",
		"ann: create procedure p is begin b.q; end;",
		"ann: create procedure r is begin p; end;",
		"b: create view v as select x from t;",
		"b: create table z (a int);",
		"ann: create view far as select x from b.v;",
		"ann: create table d (a int default s.nextval, constraint k primary key (a));",
		"ann: create index i on d (a);",
		"ann: create trigger g after insert on d begin null; end;",
	)
	for _, x := range []struct{ text, want string }{
		{"ann: create table t (x int);", "ann.d ann.far ann.g ann.i ann.p ann.r ann.t ann.v? b.v b.z"},
		{"ann: create sequence b.t start 1 by 1 cache 1;", "ann.d ann.far? ann.g ann.i ann.p ann.r ann.v b.t b.v? b.z"},
		{"ann: create procedure b.q is begin null; end;", "ann.d ann.far ann.g ann.i ann.p? ann.r? ann.v b.q b.v b.z"},
		{"ann: create package b is end;", "ann.b ann.d ann.far ann.g ann.i ann.p? ann.r? ann.v b.v b.z"},
		{"b: create package b is end;", "ann.d ann.far ann.g ann.i ann.p ann.r ann.v b.b b.v b.z"},
		{"ann: create sequence s start 1 by 1 cache 1;", "ann.d ann.far ann.g? ann.i ann.p ann.r ann.s ann.v b.v b.z"},
		{"ann: create or replace view far as select x from v;", "ann.d ann.far ann.g ann.i ann.p ann.r ann.v b.v b.z"},
		{"ann: create or replace procedure p is begin r; end;", "ann.d ann.far ann.g ann.i ann.p ann.r? ann.v b.v b.z"},
		{"ann: create or replace view v as select x from b.v;", "ann.d ann.far ann.g ann.i ann.p ann.r ann.v b.v b.z"},
		{"b: create or replace view v as select x from z;", "ann.d ann.far? ann.g ann.i ann.p ann.r ann.v b.v b.z"},
		{"b: alter table z add b int;", "ann.d ann.far ann.g ann.i ann.p ann.r ann.v b.v b.z"},
		{"b: alter table ann.d add b int;", "ann.d ann.far ann.g? ann.i ann.p ann.r ann.v b.v b.z"},
		{"b: drop view v;", "ann.d ann.far? ann.g ann.i ann.p ann.r ann.v b.z"},
		{"ann: drop procedure p;", "ann.d ann.far ann.g ann.i ann.r? ann.v b.v b.z"},
		{"ann: drop table d;", "ann.far ann.p ann.r ann.v b.v b.z"},
		{"ann: create user q;", "ann.d ann.far ann.g ann.i ann.p ann.r ann.v b.v b.z"},
		{"ann: grant select on v to b;", "ann.d ann.far ann.g ann.i ann.p ann.r ann.v b.v b.z"},
	} {
		n := after(t, c, x.text)
		if got := keysOf(n); got != x.want {
			t.Errorf("%s\n%s\nwant\n%s", x.text, got, x.want)
		}
	}
}

// remove takes objects, and all rights to them, away.
func remove(c *api.Catalog, keys ...string) {
	gone := func(owner, name string) bool { return slices.Contains(keys, owner+"."+name) }
	c.Objects = slices.DeleteFunc(c.Objects, func(o api.Object) bool { return gone(o.Owner, o.Name) })
	c.Grants = slices.DeleteFunc(c.Grants, func(g api.Grant) bool { return gone(g.Owner, g.Name) })
}

// TestDrop: P6.4.
func TestDrop(t *testing.T) {
	c := after(t, world(t), "bob: create trigger far after insert on ann.t begin null; end;", "bob: create index i on ann.t (a);", "cy: create trigger child after insert on ann.child begin null; end;",
		"cy: create table own (a int, b int, constraint p primary key (a), constraint f foreign key (b) references own);", "ann: grant update on child to cy;", "bob: grant select on i to cy;", "ann: grant select on child to all;",
		"cy: create procedure t is begin far; bob.i.x; end;")
	for _, x := range []struct{ text, gone, stale string }{
		{"ann: drop table child;", "ann.child cy.child", "ann.f ann.g ann.k ann.p"},
		{"ann: drop index i;", "ann.i", ""},
		{"ann: drop sequence s;", "ann.s", ""},
		{"ann: drop view v;", "ann.v", "ann.f ann.g ann.k ann.p bob.w"},
		{"bob: drop view ann.v;", "ann.v", "ann.f ann.g ann.k ann.p bob.w"}, // layer 25 is not asked
		{"ann: drop procedure p;", "ann.p", "ann.f ann.g ann.k"},
		{"ann: drop function f;", "ann.f", "ann.g ann.k"},
		{"ann: drop package k;", "ann.k", "ann.g"},
		{"ann: drop trigger g;", "ann.g", ""},
		{"ann: drop trigger bob.far;", "bob.far", ""},
		{"bob: drop index i;", "bob.i", "cy.t"},
		{"cy: drop table own;", "cy.own", ""},
		{"bob: drop table d;", "bob.d", ""},
	} {
		expectChange(t, c, x.text, func(c *api.Catalog) {
			remove(c, strings.Fields(x.gone)...)
			for _, key := range strings.Fields(x.stale) {
				at(t, c, key).Valid = false
			}
		})
	}
	n := expectChange(t, c, "ann: drop table child;", func(c *api.Catalog) {
		remove(c, "ann.child", "cy.child")
		for _, key := range strings.Fields("ann.f ann.g ann.k ann.p") {
			at(t, c, key).Valid = false
		}
	})
	expectChange(t, n, "cy: drop table ann.t;", func(c *api.Catalog) { // nothing leads to it any more; what hung on its indexes is not Valid, too
		remove(c, "ann.t", "ann.i", "ann.g", "bob.far", "bob.i")
		for _, key := range strings.Fields("ann.v bob.w cy.t") {
			at(t, c, key).Valid = false
		}
	})
}

// TestDropRefused: P6.4, the errors of FDrop.
func TestDropRefused(t *testing.T) {
	c := world(t)
	kinds := map[string]string{"t": "table", "child": "table", "i": "index", "s": "sequence", "v": "view", "p": "procedure", "f": "function", "k": "package", "g": "trigger"}
	for _, kind := range []string{"table", "index", "sequence", "view", "procedure", "function", "package", "trigger"} {
		for name, its := range kinds {
			if its != kind {
				expectRefused(t, c, api.ErrKind, "ann: drop "+kind+" "+name+";")
				expectRefused(t, c, api.ErrKind, "bob: drop "+kind+" ann."+name+";")
			}
			expectRefused(t, c, api.ErrNone, "bob: drop "+kind+" "+name+";")
		}
		expectRefused(t, c, api.ErrNone, "ann: drop "+kind+" dan.t;")
		expectRefused(t, c, api.ErrNone, "ann: drop "+kind+" t.t;")
		expectRefused(t, c, api.ErrNone, "ann: drop "+kind+" w;")
	}
	expectRefused(t, c, api.ErrUsed, "ann: drop table t;")
	expectRefused(t, c, api.ErrUsed, "bob: drop table ann.t;")
}

// TestAdd: P6.4.
func TestAdd(t *testing.T) {
	c := world(t)
	for _, x := range []struct {
		text, key, stale string
		column           api.Column
	}{
		{"ann: alter table t add d text;", "ann.t", "ann.f ann.g ann.k ann.p ann.v bob.w", api.Column{Name: "d", Type: api.VText}},
		{"bob: alter table ann.child add a bool;", "ann.child", "ann.f ann.g ann.k ann.p", api.Column{Name: "a", Type: api.VBool}},
		{"bob: alter table d add t int;", "bob.d", "", api.Column{Name: "t", Type: api.VInt}},
	} {
		expectChange(t, c, x.text, func(c *api.Catalog) {
			o := at(t, c, x.key)
			o.Stamp = c.Stamp
			o.Table[0].Cols = append(o.Table[0].Cols, x.column)
			for _, key := range strings.Fields(x.stale) {
				at(t, c, key).Valid = false
			}
		})
	}
	for i := 1; i < api.MaxCols; i++ {
		c = after(t, c, fmt.Sprintf("bob: alter table d add c%d int;", i))
	}
	for _, x := range []struct {
		code api.Errno
		text string
	}{
		{api.ErrLimit, "bob: alter table d add b int;"},
		{api.ErrTwice, "bob: alter table d add a int;"},
		{api.ErrTwice, "bob: alter table d add c19 text;"},
		{api.ErrTwice, "bob: alter table ann.t add b text;"},
		{api.ErrNone, "ann: alter table d add b int;"},
		{api.ErrNone, "bob: alter table dan.d add b int;"},
		{api.ErrNone, "ann: alter table v add a int;"},
		{api.ErrNone, "ann: alter table i add d int;"},
		{api.ErrNone, "ann: alter table p add d int;"},
		{api.ErrNone, "ann: alter table s add d int;"},
	} {
		expectRefused(t, c, x.code, x.text)
	}
}

// TestGrant: P6.4.
func TestGrant(t *testing.T) {
	c := world(t)
	const rights = "select insert update delete execute"
	for i, right := range strings.Fields(rights) {
		for _, x := range []struct {
			path string
			to   string
		}{{"t", "bob"}, {"ann.t", "all"}, {"i", "cy"}, {"s", "bob"}, {"g", "all"}, {"child", "bob"}} {
			g := api.Grant{Right: api.Right(i + 1), Owner: "ann", Name: strings.TrimPrefix(x.path, "ann."), To: x.to}
			n := expectChange(t, c, "ann: grant "+right+" on "+x.path+" to "+x.to+";", func(c *api.Catalog) {
				c.Grants = append(c.Grants, g)
				slices.SortFunc(c.Grants, func(a, b api.Grant) int {
					return strings.Compare(fmt.Sprint(a.Right, a.Owner, ".", a.Name, ".", a.To), fmt.Sprint(b.Right, b.Owner, ".", b.Name, ".", b.To))
				})
			})
			expectRefused(t, n, api.ErrTwice, "ann: grant "+right+" on "+x.path+" to "+x.to+";")
			expectChange(t, n, "ann: revoke "+right+" on "+x.path+" from "+x.to+";", func(n *api.Catalog) { n.Grants = c.Grants })
		}
	}
	for _, x := range []struct {
		code api.Errno
		text string
	}{
		{api.ErrNone, "ann: grant select on nothing to nobody;"},
		{api.ErrNone, "bob: grant select on v to bob;"},
		{api.ErrNone, "bob: grant select on ann.w to bob;"},
		{api.ErrRights, "bob: grant select on ann.v to nobody;"},
		{api.ErrRights, "bob: grant select on ann.v to ann;"},
		{api.ErrRights, "bob: grant select on ann.v to bob;"},
		{api.ErrName, "ann: grant select on v to nobody;"},
		{api.ErrName, "ann: grant select on v to t;"},
		{api.ErrArg, "ann: grant select on v to ann;"},
		{api.ErrTwice, "ann: grant select on v to bob;"},
		{api.ErrTwice, "ann: grant execute on ann.k to all;"},
		{api.ErrNone, "ann: revoke select on nothing from nobody;"},
		{api.ErrNone, "bob: revoke select on v from bob;"},
		{api.ErrRights, "bob: revoke select on ann.v from bob;"},
		{api.ErrRights, "cy: revoke select on ann.v from nobody;"},
		{api.ErrNone, "ann: revoke select on v from cy;"},
		{api.ErrNone, "ann: revoke select on v from ann;"},
		{api.ErrNone, "ann: revoke select on v from all;"},
		{api.ErrNone, "ann: revoke select on v from nobody;"},
		{api.ErrNone, "ann: revoke delete on v from bob;"},
		{api.ErrNone, "ann: revoke select on t from bob;"},
	} {
		expectRefused(t, c, x.code, x.text)
	}
}

// TestUser: P6.4.
func TestUser(t *testing.T) {
	c := world(t)
	for _, name := range []string{"a", "anna", "bo", "z", "t"} {
		expectChange(t, c, "cy: create user "+name+";", func(c *api.Catalog) {
			c.Users = append(c.Users, name)
			slices.Sort(c.Users)
		})
	}
	for _, name := range c.Users {
		expectRefused(t, c, api.ErrTwice, "cy: create user "+name+";")
	}
}

// TestExample is the chapter's example.
func TestExample(t *testing.T) {
	c := after(t, users(t, "u"), "u: create table t (a int);", "u: create view v as select a from t;", "u: create procedure p is x int; begin select a into x from v; end;")
	expectKeys(t, "Hangs", catalog.Hangs, c, "u.p", "u.t u.v")
	if got := keysOf(after(t, c, "u: alter table t add c int;")); got != "u.p? u.t u.v?" {
		t.Error(got)
	}
}

// TestSizes: no function panics, whatever it is given.
func TestSizes(t *testing.T) {
	deep := api.Expr{Op: api.EStar}
	for range 1 << 16 {
		deep = api.Expr{Op: api.EUnary, Text: "-", Kids: []api.Expr{deep}}
	}
	c := world(t)
	at(t, &c, "ann.t").Table[0].Cols[0].Default = []api.Expr{deep}
	if catalog.Valid(c) || !catalog.Same(c, c) {
		t.Error("a deep expression is valid, or differs from itself")
	}
	many := world(t)
	many.Grants = slices.Repeat(many.Grants[:1], 1<<20)
	many.Users = slices.Repeat(many.Users, 1<<20)
	if catalog.Valid(many) {
		t.Error("many users are valid")
	}
	for i, code := range append(errorsOf(c), errorsOf(many)...) {
		if code != api.ErrArg {
			t.Errorf("error %d of function %d", code, i)
		}
	}
	d := def(t, "create table t (a int default 1);")
	d.Object.Table[0].Cols[0].Default[0] = deep
	if n, code := catalog.Do(world(t), "bob", d); code != api.ErrArg || !reflect.DeepEqual(n, api.Catalog{}) {
		t.Errorf("a deep default: error %d", code)
	}
}
