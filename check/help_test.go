package check_test

import (
	"encoding/json"
	"fmt"
	"reflect"
	"strings"
	"testing"

	"justiciar/api"
	"justiciar/catalog"
	"justiciar/check"
	"justiciar/unit"
)

// after returns a catalog after definitions, each of a user: "u: create ..".
func after(t *testing.T, c api.Catalog, l ...string) api.Catalog {
	t.Helper()
	for _, s := range l {
		user, text, _ := strings.Cut(s, ": ")
		n, code := catalog.Do(c, user, defOf(t, text))
		if code != api.OK {
			t.Fatalf("%s: error %d", s, code)
		}
		c = n
	}
	return c
}

func users(t *testing.T, names ...string) api.Catalog {
	t.Helper()
	c, code := catalog.New(names)
	if code != api.OK {
		t.Fatalf("New of %q: error %d", names, code)
	}
	return c
}

// world returns a catalog of the users u and w, with objects of each kind.
func world(t *testing.T) api.Catalog {
	t.Helper()
	return after(t, users(t, "u", "w"),
		"u: create table t (x int, y text, z bool);",
		"u: create table s (a int, b text);",
		"w: create table t (d int);",
		"u: create view v as select x, y from t;",
		"u: create view worse as select nix from t;",
		"u: create index i1 on t (x);",
		"u: create sequence seq start 1 by 1 cache 1;",
		"w: create sequence seq start 1 by 1 cache 1;",
		"u: create procedure run is begin null; end;",
		"u: create procedure three (a int, b out text, c in out bool) is begin null; end;",
		"u: create procedure lists (l array of int, m out array of text, n in out array of int) is begin null; end;",
		"u: create function f (a int) return int is begin return a; end;",
		"u: create function g return text is begin return 'g'; end;",
		"u: create function total (l array of int) return int is begin return l.size; end;",
		"u: create function gives (a out int) return int is begin return 1; end;",
		"u: create function both (a in out int) return int is begin return 1; end;",
		"u: create procedure put is begin null; end;",
		"u: create function abs (a text, b text) return text is begin return a; end;",
		"u: create package pack is n int; str text; l array of int; e exception; procedure go (a int) is begin null; end; function calc (a int, b text) return bool is begin return true; end; private function secret return int is begin return 1; end; private procedure hidden is begin null; end; end;",
		"u: create trigger fires before insert on t begin null; end;",
		"w: create procedure run (a int) is begin null; end;",
		"w: create function f (a text) return text is begin return a; end;",
		"w: create package pack is n text; procedure go (a text) is begin null; end; function calc return int is begin return 1; end; end;",
		"u: create package w is f int; q int; function f (a bool) return bool is begin return a; end; function only return bool is begin return true; end; procedure run (a bool) is begin null; end; procedure alone is begin null; end; end;",
	)
}

func defOf(t *testing.T, s string) api.Def {
	t.Helper()
	d, f := unit.ParseDef(s)
	if f != (api.Fault{}) {
		t.Fatalf("%s: %v", s, f)
	}
	return d
}

func blockOf(t *testing.T, s string) api.Block {
	t.Helper()
	b, f := unit.ParseBlock(s)
	if f != (api.Fault{}) {
		t.Fatalf("%s: %v", s, f)
	}
	return b
}

// encoded returns a string that shows all of a value, where a nil slice and an empty one are the same.
func encoded(x any) string {
	b, err := json.Marshal(x)
	if err != nil {
		panic(err)
	}
	return strings.ReplaceAll(string(b), "[]", "null")
}

func equal(a, b any) bool { return encoded(a) == encoded(b) }

// copied returns a copy of a value that shares no memory with it.
func copied[T any](x T) T {
	var c T
	if err := json.Unmarshal([]byte(encoded(x)), &c); err != nil {
		panic(err)
	}
	return c
}

// scribble changes each value within another one in its place.
func scribble(v reflect.Value) {
	switch v.Kind() {
	case reflect.Int:
		v.SetInt(v.Int() + 1)
	case reflect.String:
		v.SetString(v.String() + "!")
	case reflect.Struct:
		for i := range v.NumField() {
			scribble(v.Field(i))
		}
	case reflect.Slice:
		for i := range v.Len() {
			scribble(v.Index(i))
		}
	}
}

// call is who calls with which catalog.
type call struct {
	c    api.Catalog
	user string
}

// unit calls Unit and Binds, and looks at what must always be.
func (x call) unit(t *testing.T, owner, name string, k api.ObjKind, u api.Unit) ([][]api.Bind, api.Fault) {
	t.Helper()
	args := []any{x.c, u}
	was := encoded(args)
	f := check.Unit(x.c, owner, name, k, u)
	if again := check.Unit(x.c, owner, name, k, u); again != f {
		t.Errorf("%s: %v, another time %v", name, f, again)
	}
	l, code := check.Binds(x.c, owner, name, k, u)
	want := api.ErrBad
	switch f.Code {
	case api.OK:
		want = api.OK
	case api.ErrArg:
		want = api.ErrArg
	}
	if code != want || code != api.OK && l != nil {
		t.Errorf("%s: fault %v, of Binds error %d with %v", name, f, code, l)
	}
	again, _ := check.Binds(x.c, owner, name, k, u)
	if !equal(l, again) {
		t.Errorf("%s: binds %v, another time %v", name, l, again)
	}
	scribble(reflect.ValueOf(&again).Elem())
	if encoded(args) != was {
		t.Errorf("%s: an argument has changed", name)
	}
	return l, f
}

// def calls Def, and looks at what must always be.
func (x call) def(t *testing.T, d api.Def) api.Fault {
	t.Helper()
	args := []any{x.c, d}
	was := encoded(args)
	f := check.Def(x.c, x.user, d)
	if again := check.Def(x.c, x.user, d); again != f {
		t.Errorf("%v, another time %v", f, again)
	}
	if encoded(args) != was {
		t.Error("an argument has changed")
	}
	x.unitOfDef(t, d, f)
	return f
}

// unitOfDef expects that Unit finds the same fault as Def in a program that can be made.
func (x call) unitOfDef(t *testing.T, d api.Def, want api.Fault) {
	t.Helper()
	c, code := catalog.Do(x.c, x.user, d)
	if code != api.OK || d.Op != api.FCreate || len(d.Object.Unit) == 0 {
		return
	}
	owner := d.Object.Owner
	if owner == "" {
		owner = x.user
	}
	o, _ := catalog.Find(c, owner, d.Object.Name)
	if _, f := (call{c, x.user}).unit(t, owner, o.Name, o.Kind, o.Unit[0]); f != want {
		t.Errorf("%s: of Def %v, of Unit %v", o.Name, want, f)
	}
}

// block calls Block, and looks at what must always be.
func (x call) block(t *testing.T, b api.Block) api.Fault {
	t.Helper()
	args := []any{x.c, b}
	was := encoded(args)
	f := check.Block(x.c, x.user, b)
	if again := check.Block(x.c, x.user, b); again != f {
		t.Errorf("%v, another time %v", f, again)
	}
	if encoded(args) != was {
		t.Error("an argument has changed")
	}
	return f
}

// marked returns a string without its mark ^, and the column where that was: 0, if there was none.
func marked(s string) (string, int) {
	text, behind, found := strings.Cut(s, "^")
	if !found {
		return text, 0
	}
	return text + behind, len(text) + 1
}

// found returns the fault of a definition or a block.
func (x call) found(t *testing.T, s string) api.Fault {
	t.Helper()
	if strings.HasPrefix(s, "create") || strings.HasPrefix(s, "drop") || strings.HasPrefix(s, "alter") || strings.HasPrefix(s, "grant") {
		return x.def(t, defOf(t, s))
	}
	return x.block(t, blockOf(t, s))
}

// expect expects the fault of a definition or a block: ^ stands ahead of where it is.
func (x call) expect(t *testing.T, s string, code api.Errno, name string) {
	t.Helper()
	text, col := marked(s)
	want := api.Fault{Code: code, Name: name, Col: col}
	if col > 0 {
		want.Line = 1
	}
	if f := x.found(t, text); f != want {
		t.Errorf("%s: %v, want %v", s, f, want)
	}
}

func (x call) expectRight(t *testing.T, l ...string) {
	t.Helper()
	for _, s := range l {
		x.expect(t, s, api.OK, "")
	}
}

// expected is the fault of something: ^ stands ahead of where it is.
type expected struct {
	s    string
	code api.Errno
	name string
}

func (x call) expectAll(t *testing.T, l ...expected) {
	t.Helper()
	for _, one := range l {
		x.expect(t, one.s, one.code, one.name)
	}
}

// within returns a procedure in which a statement may name things of each sort.
func within(stmt string) string {
	return "create procedure me (a int, b out text, c in out bool, li array of int, lo out array of text, lb in out array of int) is " +
		"n int; str text; yes bool; nums array of int; strs array of text; yeses array of bool; e exception; cursor cur is select x, y from t; " +
		"begin for i in 1 .. 9 loop for r in (select x, y, z, null as nix, x + 1, y as two, z as two from t) loop " + stmt + " end loop; end loop; end;"
}

// expectStmts expects the faults of statements within such a procedure.
func (x call) expectStmts(t *testing.T, l ...expected) {
	t.Helper()
	for _, one := range l {
		x.expect(t, within(one.s), one.code, one.name)
	}
}

func (x call) expectRightStmts(t *testing.T, l ...string) {
	t.Helper()
	for _, s := range l {
		x.expect(t, within(s), api.OK, "")
	}
}

// expectExprs expects the faults of expressions within such a procedure.
func (x call) expectExprs(t *testing.T, l ...expected) {
	t.Helper()
	for _, one := range l {
		x.expect(t, within("put("+one.s+");"), one.code, one.name)
	}
}

// expectKind expects that expressions within such a procedure are of a kind: VNull is that of what fits all.
func (x call) expectKind(t *testing.T, want api.Kind, l ...string) {
	t.Helper()
	for _, s := range l {
		for target, k := range map[string]api.Kind{"n": api.VInt, "str": api.VText, "yes": api.VBool} {
			f := x.found(t, within(target+" := "+s+";"))
			if fits := k == want || want == api.VNull; f.Code != api.OK && fits || f.Code != api.ErrType && !fits {
				t.Errorf("%s to %s: %v, want kind %d", s, target, f, want)
			}
		}
	}
}

// shown returns binds as a string: those of one query or change in brackets.
func shown(all [][]api.Bind) string {
	var out []string
	for _, l := range all {
		var some []string
		for _, b := range l {
			s := strings.Join(b.Path, ".") + " " + []string{"null", "int", "text", "bool"}[b.Type]
			if b.Val != (api.Value{}) {
				s += fmt.Sprint(b.Val)
			}
			some = append(some, s)
		}
		out = append(out, "["+strings.Join(some, ", ")+"]")
	}
	return strings.Join(out, " ")
}
