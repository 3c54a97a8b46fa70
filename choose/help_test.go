package choose_test

import (
	"encoding/json"
	"fmt"
	"slices"
	"strings"
	"testing"

	"justiciar/api"
	"justiciar/catalog"
	"justiciar/choose"
	"justiciar/query"
	"justiciar/unit"
)

// after returns a catalog after definitions, each of a user: "u: create ..".
func after(t *testing.T, c api.Catalog, l ...string) api.Catalog {
	t.Helper()
	for _, s := range l {
		user, text, _ := strings.Cut(s, ": ")
		d, f := unit.ParseDef(text)
		if f != (api.Fault{}) {
			t.Fatalf("%s: %v", s, f)
		}
		n, code := catalog.Do(c, user, d)
		if code != api.OK {
			t.Fatalf("%s: error %d", s, code)
		}
		c = n
	}
	return c
}

func users(t *testing.T, names ...string) api.Catalog {
	t.Helper()
	c, code := catalog.New(names)
	if code != api.OK {
		t.Fatalf("New of %q: error %d", names, code)
	}
	return c
}

// world returns a catalog of the users u and w, with tables, views, indexes and what is none of these.
func world(t *testing.T) api.Catalog {
	t.Helper()
	return after(t, users(t, "u", "w"),
		"u: create table t (a int, b text, c bool, d int);",
		"u: create table empty (a int);",
		"w: create table t (a int, b text);",
		"u: create index m on t (a, b);",
		"u: create index k on t (a);",
		"u: create index q on t (c, d, a, b);",
		"w: create index d on u.t (b);",
		"u: create index e on empty (a);",
		"u: create index far on w.t (b, a);",
		"u: create view v as select a, b from t;",
		"u: create sequence seq start 1 by 1 cache 1;",
		"u: create procedure p is begin null; end;",
	)
}

func number(n int) api.Value { return api.Value{Kind: api.VInt, N: n} }

func text(s string) api.Value { return api.Value{Kind: api.VText, Text: s} }

func truth(n int) api.Value { return api.Value{Kind: api.VBool, N: n} }

// image returns what the tables of world have: u.t seven rows, w.t two.
func image() api.Image {
	null := api.Value{}
	rows := []api.Row{
		{number(1), text("x"), truth(1), number(5)},
		{number(1), text("y"), truth(1), number(5)},
		{number(2), text("x"), truth(1), null},
		{number(2), text("x"), truth(0), number(5)},
		{null, text("x"), null, number(5)},
		{number(2)},
		nil,
	}
	var held []api.Held
	for i, r := range rows {
		held = append(held, api.Held{Id: 2*i + 1, Row: r})
	}
	return api.Image{Time: 3, Tables: []api.Stored{
		{Owner: "u", Name: "t", Rows: held, Next: 20},
		{Owner: "w", Name: "t", Rows: []api.Held{{Id: 4, Row: api.Row{number(1), text("x")}}, {Id: 5, Row: api.Row{number(2)}}}, Next: 6},
	}}
}

func variables() []api.Bind {
	return []api.Bind{
		{Path: []string{"one"}, Type: api.VInt, Val: number(1)},
		{Path: []string{"x"}, Type: api.VText, Val: text("x")},
		{Path: []string{"none"}, Type: api.VInt},
		{Path: []string{":new", "a"}, Type: api.VInt, Val: number(2)},
	}
}

func queryOf(t *testing.T, s string) api.Query {
	t.Helper()
	q, f := query.Parse(s)
	if f != (api.Fault{}) {
		t.Fatalf("%s: %v", s, f)
	}
	return q
}

func encoded(x any) string {
	b, err := json.Marshal(x)
	if err != nil {
		panic(err)
	}
	return strings.ReplaceAll(string(b), "[]", "null")
}

// call is what the functions of the package are called with.
type call struct {
	c     api.Catalog
	user  string
	binds []api.Bind
	m     api.Image
}

func standard(t *testing.T) call { return call{world(t), "u", variables(), image()} }

// unchanged expects that what a closure does changes no argument.
func (x call) unchanged(t *testing.T, q api.Query, do func()) {
	t.Helper()
	was := encoded([]any{x.c, x.binds, x.m, q})
	do()
	if encoded([]any{x.c, x.binds, x.m, q}) != was {
		t.Error("an argument has changed")
	}
}

func (x call) ways(t *testing.T, q api.Query, source int) (l []api.Way, code api.Errno) {
	t.Helper()
	x.unchanged(t, q, func() { l, code = choose.Ways(x.c, x.user, x.binds, q, source) })
	if again, codeAgain := choose.Ways(x.c, x.user, x.binds, q, source); encoded(again) != encoded(l) || codeAgain != code {
		t.Errorf("another time %v %d, not %v %d", again, codeAgain, l, code)
	}
	if code != api.OK && len(l) > 0 {
		t.Errorf("error %d with %v", code, l)
	}
	return l, code
}

func (x call) best(t *testing.T, q api.Query) (l []api.Way, code api.Errno) {
	t.Helper()
	x.unchanged(t, q, func() { l, code = choose.Best(x.c, x.user, x.binds, q, x.m) })
	if again, codeAgain := choose.Best(x.c, x.user, x.binds, q, x.m); encoded(again) != encoded(l) || codeAgain != code {
		t.Errorf("another time %v %d, not %v %d", again, codeAgain, l, code)
	}
	if code != api.OK && len(l) > 0 {
		t.Errorf("error %d with %v", code, l)
	}
	return l, code
}

func (x call) cost(t *testing.T, q api.Query, source int, w api.Way) (n int, code api.Errno) {
	t.Helper()
	x.unchanged(t, q, func() { n, code = choose.Cost(x.c, x.user, x.binds, q, x.m, source, w) })
	if code != api.OK && n != 0 {
		t.Errorf("error %d with %d", code, n)
	}
	return n, code
}

func (x call) are(t *testing.T, q api.Query, l []api.Way) (ok bool, code api.Errno) {
	t.Helper()
	was := slices.Clone(l)
	x.unchanged(t, q, func() { ok, code = choose.Are(x.c, x.user, x.binds, q, l) })
	if !slices.Equal(l, was) {
		t.Error("the ways have changed")
	}
	if code != api.OK && ok {
		t.Errorf("error %d with true", code)
	}
	return ok, code
}

// costs returns what all ways to a source cost, as "u.i/2: 7".
func (x call) costs(t *testing.T, s string, source int) string {
	t.Helper()
	q := queryOf(t, s)
	l, code := x.ways(t, q, source)
	if code != api.OK {
		t.Errorf("%s, source %d: error %d", s, source, code)
	}
	var all []string
	for _, w := range l {
		n, code := x.cost(t, q, source, w)
		if code != api.OK {
			t.Errorf("%s, source %d: the cost of %v: error %d", s, source, w, code)
		}
		all = append(all, fmt.Sprintf("%s: %d", shown(w), n))
	}
	return strings.Join(all, ", ")
}

// shown returns a way as "u.i/2", or "all".
func shown(w api.Way) string {
	if w == (api.Way{}) {
		return "all"
	}
	return fmt.Sprintf("%s.%s/%d", w.Owner, w.Name, w.Cols)
}

func shownAll(l []api.Way) string {
	var all []string
	for _, w := range l {
		all = append(all, shown(w))
	}
	return strings.Join(all, " ")
}
