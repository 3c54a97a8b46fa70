package resolve_test

import (
	"encoding/json"
	"fmt"
	"reflect"
	"strings"
	"testing"

	"justiciar/api"
	"justiciar/catalog"
	"justiciar/expr"
	"justiciar/query"
	"justiciar/resolve"
	"justiciar/unit"
)

// after returns a catalog after definitions, each of a user: "u: create ..".
func after(t *testing.T, c api.Catalog, l ...string) api.Catalog {
	t.Helper()
	for _, s := range l {
		user, text, _ := strings.Cut(s, ": ")
		d, f := unit.ParseDef(text)
		if f != (api.Fault{}) {
			t.Fatalf("%s: %v", s, f)
		}
		n, code := catalog.Do(c, user, d)
		if code != api.OK {
			t.Fatalf("%s: error %d", s, code)
		}
		c = n
	}
	return c
}

func users(t *testing.T, names ...string) api.Catalog {
	t.Helper()
	c, code := catalog.New(names)
	if code != api.OK {
		t.Fatalf("New of %q: error %d", names, code)
	}
	return c
}

// world returns a catalog of the users u and w, with tables, views and what is neither.
func world(t *testing.T) api.Catalog {
	t.Helper()
	return after(t, users(t, "u", "w"),
		"u: create table t (a int, b text, c bool);",
		"u: create table s (a int, x int, y text);",
		"u: create table one (k int);",
		"u: create index i on t (a);",
		"u: create sequence seq start 1 by 1 cache 1;",
		"u: create procedure p is begin null; end;",
		"u: create package pack is n int; end;",
		"u: create trigger g before insert on t begin null; end;",
		"u: create view v as select a, b as n, a + 1, c as m from t;",
		"u: create view two as select a, x as a, y from s;",
		"u: create view nix as select null as z, a from t;",
		"w: create table t (d int, e text);",
		"w: create view v as select d, t.e from t;",
		"w: create view far as select a from u.t;",
		"w: create view bad as select a from t;",
		"u: create view worse as select d from w.bad;",
	)
}

// variables returns binds that tests use: v and s of the kinds int and text, and others with longer paths.
func variables() []api.Bind {
	return []api.Bind{
		{Path: []string{"v"}, Type: api.VInt, Val: api.Value{Kind: api.VInt, N: 7}},
		{Path: []string{"str"}, Type: api.VText},
		{Path: []string{"a"}, Type: api.VBool, Val: api.Value{Kind: api.VBool, N: 1}},
		{Path: []string{":new", "a"}, Type: api.VInt},
		{Path: []string{":old", "a"}, Type: api.VText, Val: api.Value{Kind: api.VText, Text: "old"}},
		{Path: []string{"pack", "n"}, Type: api.VInt},
		{Path: []string{"u", "pack", "n"}, Type: api.VText},
		{Path: []string{"a", "element", "e1"}, Type: api.VInt},
	}
}

// marked returns a string without its mark, and the column where that was: 0, if there was none.
func marked(s string) (string, int) {
	text, behind, found := strings.Cut(s, "^")
	if !found {
		return text, 0
	}
	return text + behind, len(text) + 1
}

func queryOf(t *testing.T, s string) api.Query {
	t.Helper()
	q, f := query.Parse(s)
	if f != (api.Fault{}) {
		t.Fatalf("%s: %v", s, f)
	}
	return q
}

func changeOf(t *testing.T, s string) api.Change {
	t.Helper()
	x, f := query.ParseChange(s)
	if f != (api.Fault{}) {
		t.Fatalf("%s: %v", s, f)
	}
	return x
}

func exprOf(t *testing.T, s string) api.Expr {
	t.Helper()
	e, f := expr.Parse(s)
	if f != (api.Fault{}) {
		t.Fatalf("%s: %v", s, f)
	}
	return e
}

// equal reports whether two values are the same, positions and all, where a nil slice and an empty one are the same.
func equal(a, b any) bool { return encoded(a) == encoded(b) }

func encoded(x any) string {
	b, err := json.Marshal(x)
	if err != nil {
		panic(err)
	}
	return strings.ReplaceAll(string(b), "[]", "null")
}

// copied returns a copy of a value that shares no memory with it.
func copied[T any](x T) T {
	var c T
	if err := json.Unmarshal([]byte(encoded(x)), &c); err != nil {
		panic(err)
	}
	return c
}

// scribble changes each value within another one in its place.
func scribble(v reflect.Value) {
	switch v.Kind() {
	case reflect.Int:
		v.SetInt(v.Int() + 1)
	case reflect.Bool:
		v.SetBool(!v.Bool())
	case reflect.String:
		v.SetString(v.String() + "!")
	case reflect.Struct:
		for i := range v.NumField() {
			scribble(v.Field(i))
		}
	case reflect.Slice:
		for i := range v.Len() {
			scribble(v.Index(i))
		}
	}
}

// world in which a call is made: what it must not change, and what no result may share memory with.
type call struct {
	c     api.Catalog
	user  string
	binds []api.Bind
}

// query calls Query, and looks at what must always be.
func (x call) query(t *testing.T, q api.Query) (api.Query, []api.Named, api.Fault) {
	t.Helper()
	was, args := encoded([]any{x.c, x.binds, q}), []any{x.c, x.binds, q}
	r, l, f := resolve.Query(x.c, x.user, x.binds, q)
	again, lAgain, fAgain := resolve.Query(x.c, x.user, x.binds, q)
	if f != fAgain || !equal(r, again) || !equal(l, lAgain) {
		t.Errorf("%s: another time another result: %v %v", shownQuery(q), f, fAgain)
	}
	if f.Code != api.OK && (!equal(r, api.Query{}) || len(l) > 0) {
		t.Errorf("%s: a fault %v with %s %v", shownQuery(q), f, shownQuery(r), l)
	}
	scribble(reflect.ValueOf(&again).Elem())
	scribble(reflect.ValueOf(&lAgain).Elem())
	if encoded(args) != was {
		t.Errorf("%s: an argument has changed", shownQuery(q))
	}
	return r, l, f
}

// change calls Change, and looks at what must always be.
func (x call) change(t *testing.T, h api.Change) (api.Change, api.Fault) {
	t.Helper()
	was, args := encoded([]any{x.c, x.binds, h}), []any{x.c, x.binds, h}
	r, f := resolve.Change(x.c, x.user, x.binds, h)
	again, fAgain := resolve.Change(x.c, x.user, x.binds, h)
	if f != fAgain || !equal(r, again) {
		t.Errorf("%s: another time another result: %v %v", shownChange(h), f, fAgain)
	}
	if f.Code != api.OK && !equal(r, api.Change{}) {
		t.Errorf("%s: a fault %v with %s", shownChange(h), f, shownChange(r))
	}
	scribble(reflect.ValueOf(&again).Elem())
	if encoded(args) != was {
		t.Errorf("%s: an argument has changed", shownChange(h))
	}
	return r, f
}

// expr calls Expr, and looks at what must always be.
func (x call) expr(t *testing.T, table string, e api.Expr) (api.Expr, api.Kind, api.Fault) {
	t.Helper()
	was, args := encoded([]any{x.c, x.binds, e}), []any{x.c, x.binds, e}
	r, k, f := resolve.Expr(x.c, x.user, table, x.binds, e)
	again, kAgain, fAgain := resolve.Expr(x.c, x.user, table, x.binds, e)
	if f != fAgain || !equal(r, again) || k != kAgain {
		t.Errorf("%s: another time another result: %v %v", shownExpr(e), f, fAgain)
	}
	if f.Code != api.OK && (!equal(r, api.Expr{}) || k != api.VNull) {
		t.Errorf("%s: a fault %v with %s %d", shownExpr(e), f, shownExpr(r), k)
	}
	scribble(reflect.ValueOf(&again).Elem())
	if encoded(args) != was {
		t.Errorf("%s: an argument has changed", shownExpr(e))
	}
	return r, k, f
}

// expectQuery expects what a string is resolved to, and what it selects.
func (x call) expectQuery(t *testing.T, s, want, names string) {
	t.Helper()
	q := queryOf(t, s)
	r, l, f := x.query(t, q)
	if f != (api.Fault{}) {
		t.Errorf("%s: %v", s, f)
		return
	}
	if got := shownQuery(r); got != want {
		t.Errorf("%s:\n%s\nwant\n%s", s, got, want)
	}
	if got := shownNames(l); got != names {
		t.Errorf("%s: selects %s, want %s", s, got, names)
	}
	if a, b := positions(r), positions(q); !q.Star && !strings.Contains(s, "*") && a != b {
		t.Errorf("%s: positions %s, were %s", s, a, b)
	}
}

// expectFault expects the fault of a string: ^ stands ahead of where it is.
func (x call) expectFault(t *testing.T, s string, code api.Errno, name string) {
	t.Helper()
	text, col := marked(s)
	_, _, f := x.query(t, queryOf(t, text))
	if want := (api.Fault{Code: code, Name: name, Line: 1, Col: col}); f != want {
		t.Errorf("%s: %v, want %v", s, f, want)
	}
}

// expected is the fault of a string, in which ^ stands ahead of where it is.
type expected struct {
	s    string
	code api.Errno
	name string
}

func (x call) expectFaults(t *testing.T, l []expected) {
	t.Helper()
	for _, one := range l {
		x.expectFault(t, one.s, one.code, one.name)
	}
}

// expectFaultsSelecting expects the faults of strings as what is selected from t.
func (x call) expectFaultsSelecting(t *testing.T, l []expected) {
	t.Helper()
	for _, one := range l {
		x.expectFault(t, "select "+one.s+" from t", one.code, one.name)
	}
}

func (x call) expectChange(t *testing.T, s, want string) {
	t.Helper()
	r, f := x.change(t, changeOf(t, s))
	if got := shownChange(r); f != (api.Fault{}) || got != want {
		t.Errorf("%s: %v\n%s\nwant\n%s", s, f, got, want)
	}
	if a, b := positions(r), positions(changeOf(t, s)); !strings.Contains(s, "*") && a != b {
		t.Errorf("%s: positions %s, were %s", s, a, b)
	}
}

func (x call) expectChangeFault(t *testing.T, s string, code api.Errno, name string) {
	t.Helper()
	text, col := marked(s)
	_, f := x.change(t, changeOf(t, text))
	if want := (api.Fault{Code: code, Name: name, Line: 1, Col: col}); f != want {
		t.Errorf("%s: %v, want %v", s, f, want)
	}
}

func (x call) expectExpr(t *testing.T, table, s, want string, k api.Kind) {
	t.Helper()
	r, got, f := x.expr(t, table, exprOf(t, s))
	if shown := shownExpr(r); f != (api.Fault{}) || shown != want || got != k {
		t.Errorf("%s: %v %s of kind %d, want %s of kind %d", s, f, shown, got, want, k)
	}
	if a, b := positions(r), positions(exprOf(t, s)); a != b {
		t.Errorf("%s: positions %s, were %s", s, a, b)
	}
}

func (x call) expectExprFault(t *testing.T, table, s string, code api.Errno, name string) {
	t.Helper()
	text, col := marked(s)
	_, _, f := x.expr(t, table, exprOf(t, text))
	if want := (api.Fault{Code: code, Name: name, Line: 1, Col: col}); f != want {
		t.Errorf("%s: %v, want %v", s, f, want)
	}
}

// positions returns all positions in a tree.
func positions(x any) string {
	var all []string
	var look func(v reflect.Value)
	look = func(v reflect.Value) {
		switch v.Kind() {
		case reflect.Struct:
			for i := range v.NumField() {
				if name := v.Type().Field(i).Name; name == "Line" || name == "Col" {
					all = append(all, fmt.Sprint(v.Field(i).Int()))
				} else {
					look(v.Field(i))
				}
			}
		case reflect.Slice:
			for i := range v.Len() {
				look(v.Index(i))
			}
		}
	}
	look(reflect.ValueOf(x))
	return strings.Join(all, " ")
}
