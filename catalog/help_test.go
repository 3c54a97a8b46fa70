package catalog_test

import (
	"encoding/json"
	"fmt"
	"reflect"
	"slices"
	"strings"
	"testing"

	"justiciar/api"
	"justiciar/catalog"
	"justiciar/unit"
)

// def returns the definition that a string says.
func def(t *testing.T, s string) api.Def {
	t.Helper()
	d, f := unit.ParseDef(s)
	if f != (api.Fault{}) {
		t.Fatalf("%s: %v", s, f)
	}
	return d
}

func users(t *testing.T, names ...string) api.Catalog {
	t.Helper()
	c, code := catalog.New(names)
	if code != api.OK {
		t.Fatalf("New of %q: error %d", names, code)
	}
	return c
}

// after returns a catalog after definitions, each of a user: "u: create ..".
func after(t *testing.T, c api.Catalog, l ...string) api.Catalog {
	t.Helper()
	for _, s := range l {
		user, text, _ := strings.Cut(s, ": ")
		n, code := catalog.Do(c, user, def(t, text))
		if code != api.OK || !catalog.Valid(n) || n.Stamp != c.Stamp+1 {
			t.Fatalf("%s: error %d, %v", s, code, n)
		}
		c = n
	}
	return c
}

// expectRefused expects that a definition is refused with an error, and changes nothing.
func expectRefused(t *testing.T, c api.Catalog, code api.Errno, s string) {
	t.Helper()
	user, text, _ := strings.Cut(s, ": ")
	expectError(t, s, c, code, user, def(t, text))
}

func expectError(t *testing.T, what string, c api.Catalog, code api.Errno, user string, d api.Def) {
	t.Helper()
	old, oldDef := copied(c), copied(d)
	n, got := catalog.Do(c, user, d)
	if got != code || !reflect.DeepEqual(n, api.Catalog{}) {
		t.Errorf("%s: error %d, want %d; %v", what, got, code, n)
	}
	if !equal(c, old) || !equal(d, oldDef) {
		t.Errorf("%s: an argument has changed", what)
	}
}

// world returns a catalog with objects of all kinds.
func world(t *testing.T) api.Catalog {
	t.Helper()
	return after(t, users(t, "cy", "ann", "bob"),
		"ann: create table t (a int not null, b text default 'x', c bool, constraint pk primary key (a), constraint pos check (a > 0));",
		"ann: create table child (x int, y text, constraint par foreign key (x) references t deferred, constraint one unique (y, x));",
		"ann: create index i on t (b, a);",
		"ann: create sequence s start 1 by -2 cache 5;",
		"ann: create view v as select a, b from t;",
		"ann: create procedure p (n int) is x int; begin select a into x from v; insert into child values (n, 'x'); end;",
		"ann: create function f (n int) return int is begin p(n); return n; end;",
		"ann: create package k is x int := 1; procedure q is begin x := f(x); end; end;",
		"ann: create trigger g before insert on t for each row when (:new.a > 1) begin k.q; end;",
		"bob: create view w as select a from ann.v;",
		"bob: create table d (a int);",
		"ann: grant select on v to bob;",
		"ann: grant execute on k to all;",
		"ann: grant delete on t to cy;",
		"bob: grant select on w to ann;",
	)
}

// equal reports whether two values are the same, positions and all, where a nil slice and an empty one are the same.
func equal(a, b any) bool { return string(encoded(a)) == string(encoded(b)) }

func encoded(x any) []byte {
	b, err := json.Marshal(x)
	if err != nil {
		panic(err)
	}
	return slices.Clip([]byte(strings.ReplaceAll(string(b), "[]", "null")))
}

// copied returns a copy of a value that shares no memory with it.
func copied[T any](x T) T {
	var c T
	if err := json.Unmarshal(encoded(x), &c); err != nil {
		panic(err)
	}
	return c
}

// with returns a copy of a catalog with a change.
func with(c api.Catalog, change func(c *api.Catalog)) api.Catalog {
	n := copied(c)
	change(&n)
	return n
}

// at returns the object with a key owner.name.
func at(t *testing.T, c *api.Catalog, key string) *api.Object {
	t.Helper()
	i := slices.IndexFunc(c.Objects, func(o api.Object) bool { return o.Owner+"."+o.Name == key })
	if i < 0 {
		t.Fatalf("no %s in %v", key, keysOf(*c))
	}
	return &c.Objects[i]
}

// keysOf returns the keys of all objects, those that are not Valid with a ? behind them.
func keysOf(c api.Catalog) string {
	var l []string
	for _, o := range c.Objects {
		s := o.Owner + "." + o.Name
		if !o.Valid {
			s += "?"
		}
		l = append(l, s)
	}
	return strings.Join(l, " ")
}

// written returns keys as a string.
func written(l [][2]string) string {
	var all []string
	for _, key := range l {
		all = append(all, key[0]+"."+key[1])
	}
	return strings.Join(all, " ")
}

// expectKeys expects that a function of the package returns these keys.
func expectKeys(t *testing.T, what string, do func(c api.Catalog, owner, name string) ([][2]string, api.Errno), c api.Catalog, key, want string) {
	t.Helper()
	owner, name, _ := strings.Cut(key, ".")
	old := copied(c)
	l, code := do(c, owner, name)
	if code != api.OK || written(l) != want {
		t.Errorf("%s of %s: %s, error %d, want %s", what, key, written(l), code, want)
	}
	if !equal(c, old) {
		t.Errorf("%s of %s: the catalog has changed", what, key)
	}
}

// expectSame expects that a catalog is another one, but for positions.
func expectSame(t *testing.T, what string, got, want api.Catalog) {
	t.Helper()
	if !catalog.Same(got, want) {
		t.Errorf("%s:\n%s\nwant\n%s", what, encoded(got), encoded(want))
	}
}

// visit calls a closure with each value within another one, and the name of its field, each ahead of those within it.
func visit(v reflect.Value, name string, do func(name string, v reflect.Value)) {
	do(name, v)
	switch v.Kind() {
	case reflect.Struct:
		for i := range v.NumField() {
			visit(v.Field(i), v.Type().Field(i).Name, do)
		}
	case reflect.Slice, reflect.Array:
		for i := range v.Len() {
			visit(v.Index(i), name, do)
		}
	}
}

// scribble changes each value within another one in its place.
func scribble(x any) {
	visit(reflect.ValueOf(x).Elem(), "", func(_ string, v reflect.Value) {
		switch v.Kind() {
		case reflect.Int:
			v.SetInt(v.Int() + 1)
		case reflect.Bool:
			v.SetBool(!v.Bool())
		case reflect.String:
			v.SetString(v.String() + "!")
		}
	})
}

// numbered returns n names.
func numbered(n int) []string {
	var l []string
	for i := range n {
		l = append(l, fmt.Sprintf("n%d", i))
	}
	return l
}
