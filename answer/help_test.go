package answer_test

import (
	"encoding/json"
	"reflect"
	"slices"
	"strings"
	"testing"

	"justiciar/answer"
	"justiciar/api"
	"justiciar/catalog"
	"justiciar/expr"
	"justiciar/query"
	"justiciar/unit"
	"justiciar/value"
)

// after returns a catalog after definitions, each of a user: "u: create ..".
func after(t *testing.T, c api.Catalog, l ...string) api.Catalog {
	t.Helper()
	for _, s := range l {
		user, text, _ := strings.Cut(s, ": ")
		d, f := unit.ParseDef(text)
		if f != (api.Fault{}) {
			t.Fatalf("%s: %v", s, f)
		}
		n, code := catalog.Do(c, user, d)
		if code != api.OK {
			t.Fatalf("%s: error %d", s, code)
		}
		c = n
	}
	return c
}

func users(t *testing.T, names ...string) api.Catalog {
	t.Helper()
	c, code := catalog.New(names)
	if code != api.OK {
		t.Fatalf("New of %q: error %d", names, code)
	}
	return c
}

// world returns a catalog of the users u and w, with tables, views and indexes.
func world(t *testing.T) api.Catalog {
	t.Helper()
	return after(t, users(t, "u", "w"),
		"u: create table t (a int, b text, c bool);",
		"u: create table s (a int, d int);",
		"u: create table none (a int, e text);",
		"w: create table t (k text);",
		"u: create view v as select a, b as n from t where c;",
		"u: create view counts as select n, count(*) as m from v group by n;",
		"u: create view past as select a, b from t as of 5;",
		"u: create view bad as select 1 / a as q from t where a is null or a > 0;",
		"u: create view worse as select 1 / (a - 1) as q from t;",
		"u: create view nix as select null as z, a from t order by a desc;",
		"u: create view wide as select * from t, s;",
		"w: create view far as select a, k from u.t z, t;",
		"u: create index i on t (a, b);",
		"u: create index j on t (b);",
		"w: create index k on u.s (a);",
	)
}

func number(n int) api.Value { return api.Value{Kind: api.VInt, N: n} }

func text(s string) api.Value { return api.Value{Kind: api.VText, Text: s} }

func truth(b bool) api.Value {
	if b {
		return api.Value{Kind: api.VBool, N: 1}
	}
	return api.Value{Kind: api.VBool}
}

// rowOf returns a row of values as Go has them: int, string, bool, or nil for null.
func rowOf(l ...any) api.Row {
	var r api.Row
	for _, x := range l {
		switch x := x.(type) {
		case int:
			r = append(r, number(x))
		case string:
			r = append(r, text(x))
		case bool:
			r = append(r, truth(x))
		default:
			r = append(r, api.Value{})
		}
	}
	return r
}

// stored returns what a table has: rows with some numbers.
func stored(owner, name string, ids []int, l ...api.Row) api.Stored {
	s := api.Stored{Owner: owner, Name: name, Next: 1}
	for i, r := range l {
		s.Rows = append(s.Rows, api.Held{Id: ids[i], Row: r})
		s.Next = ids[i] + 1
	}
	return s
}

// numbers returns what a table of one column or more has: rows of 1 to n.
func numbers(owner, name string, n int) api.Stored {
	s := api.Stored{Owner: owner, Name: name, Next: n + 1}
	for i := range n {
		s.Rows = append(s.Rows, api.Held{Id: i + 1, Row: rowOf(i + 1)})
	}
	return s
}

// images returns what the tables of world have at the times 2, 5 and 7.
func images() []api.Image {
	return []api.Image{
		{Time: 2, Tables: []api.Stored{stored("u", "t", []int{1}, rowOf(1, "old", true))}},
		{Time: 5, Tables: []api.Stored{stored("u", "s", []int{1}, rowOf(1, 10)), stored("u", "t", []int{1, 3}, rowOf(1, "x", true), rowOf(2, "y"))}},
		{Time: 7, Tables: []api.Stored{
			stored("u", "s", []int{1, 2, 5}, rowOf(1, 10), rowOf(2, 20), rowOf(5, nil)),
			stored("u", "t", []int{1, 3, 4, 8, 9}, rowOf(1, "x", true), rowOf(2, "y", false), rowOf(nil, "x", nil), rowOf(3), rowOf(1, "x", false)),
			stored("w", "t", []int{6}, rowOf("w")),
		}},
	}
}

func variables() []api.Bind {
	return []api.Bind{
		{Path: []string{"one"}, Type: api.VInt, Val: number(1)},
		{Path: []string{"x"}, Type: api.VText, Val: text("x")},
		{Path: []string{"nil"}, Type: api.VInt},
		{Path: []string{":new", "a"}, Type: api.VInt, Val: number(2)},
		{Path: []string{"yes"}, Type: api.VBool, Val: truth(true)},
	}
}

func queryOf(t *testing.T, s string) api.Query {
	t.Helper()
	q, f := query.Parse(s)
	if f != (api.Fault{}) {
		t.Fatalf("%s: %v", s, f)
	}
	return q
}

func changeOf(t *testing.T, s string) api.Change {
	t.Helper()
	x, f := query.ParseChange(s)
	if f != (api.Fault{}) {
		t.Fatalf("%s: %v", s, f)
	}
	return x
}

func exprOf(t *testing.T, s string) api.Expr {
	t.Helper()
	e, f := expr.Parse(s)
	if f != (api.Fault{}) {
		t.Fatalf("%s: %v", s, f)
	}
	return e
}

func encoded(x any) string {
	b, err := json.Marshal(x)
	if err != nil {
		panic(err)
	}
	return strings.ReplaceAll(string(b), "[]", "null")
}

// scribble changes each value within another one in its place.
func scribble(v reflect.Value) {
	switch v.Kind() {
	case reflect.Int:
		v.SetInt(v.Int() + 1)
	case reflect.String:
		v.SetString(v.String() + "!")
	case reflect.Struct:
		for i := range v.NumField() {
			scribble(v.Field(i))
		}
	case reflect.Slice:
		for i := range v.Len() {
			scribble(v.Index(i))
		}
	}
}

// shown returns rows as "1 'x' | 2 null".
func shown(l []api.Row) string {
	var rows []string
	for _, r := range l {
		var vals []string
		for _, v := range r {
			s, code := value.Text(v)
			if code != api.OK {
				s = "no value"
			}
			vals = append(vals, s)
		}
		rows = append(rows, strings.Join(vals, " "))
	}
	return strings.Join(rows, " | ")
}

// call is what the functions of the package are called with.
type call struct {
	c     api.Catalog
	user  string
	binds []api.Bind
	l     []api.Image
}

func standard(t *testing.T) call { return call{world(t), "u", variables(), images()} }

// checked calls a closure twice, and expects of it what holds of all functions: the same result again, none with an error, no argument changed, and no memory shared with an argument, or by two slices of the result.
func checked[T any](t *testing.T, x call, other any, do func() (T, api.Errno)) (T, api.Errno) {
	t.Helper()
	was := encoded([]any{x.c, x.binds, x.l, other})
	got, code := do()
	again, codeAgain := do()
	if encoded(got) != encoded(again) || code != codeAgain {
		t.Errorf("another time %v %d, not %v %d", again, codeAgain, got, code)
	}
	var none T
	if code != api.OK && encoded(got) != encoded(none) {
		t.Errorf("error %d with %v", code, got)
	}
	first := encoded(got)
	v := reflect.ValueOf(&again).Elem()
	if l, ok := any(again).([]api.Row); ok && len(l) > 1 {
		others := encoded(l[1:])
		scribble(v.Index(0))
		if encoded(l[1:]) != others {
			t.Error("two rows share memory")
		}
	}
	scribble(v)
	if encoded([]any{x.c, x.binds, x.l, other}) != was {
		t.Error("an argument has changed, or shares memory with a result")
	}
	if encoded(got) != first {
		t.Error("two results share memory")
	}
	return got, code
}

func (x call) rows(t *testing.T, q api.Query, ways []api.Way) ([]api.Row, api.Errno) {
	t.Helper()
	return checked(t, x, []any{q, ways}, func() ([]api.Row, api.Errno) { return answer.Rows(x.c, x.user, x.binds, q, x.l, ways) })
}

func (x call) spots(t *testing.T, q api.Query) ([]api.Spot, api.Errno) {
	t.Helper()
	return checked(t, x, q, func() ([]api.Spot, api.Errno) { return answer.Spots(x.c, x.user, x.binds, q, x.l) })
}

func (x call) find(t *testing.T, h api.Change) ([]int, api.Errno) {
	t.Helper()
	return checked(t, x, h, func() ([]int, api.Errno) { return answer.Find(x.c, x.user, x.binds, h, x.l) })
}

func (x call) new(t *testing.T, h api.Change) ([]api.Row, api.Errno) {
	t.Helper()
	return checked(t, x, h, func() ([]api.Row, api.Errno) { return answer.New(x.c, x.user, x.binds, h, x.l) })
}

func (x call) next(t *testing.T, h api.Change, id int) (api.Row, api.Errno) {
	t.Helper()
	return checked(t, x, h, func() (api.Row, api.Errno) { return answer.Next(x.c, x.user, x.binds, h, x.l, id) })
}

func (x call) value(t *testing.T, table string, e api.Expr, r api.Row) (api.Value, api.Errno) {
	t.Helper()
	return checked(t, x, []any{e, r}, func() (api.Value, api.Errno) { return answer.Value(x.c, x.user, table, x.binds, e, r) })
}

// expect expects the rows of queries.
func (x call) expect(t *testing.T, l [][2]string) {
	t.Helper()
	for _, one := range l {
		rows, code := x.rows(t, queryOf(t, one[0]), nil)
		if got := shown(rows); code != api.OK || got != one[1] {
			t.Errorf("%s: %s, error %d, want %s", one[0], got, code, one[1])
		}
	}
}

// expectErrors expects an error of queries.
func (x call) expectErrors(t *testing.T, want api.Errno, l ...string) {
	t.Helper()
	for _, s := range l {
		if rows, code := x.rows(t, queryOf(t, s), nil); code != want {
			t.Errorf("%s: %s, error %d, want %d", s, shown(rows), code, want)
		}
	}
}

// expectShown expects what a closure shows for strings.
func expectShown(t *testing.T, l map[string]string, do func(s string) (string, api.Errno)) {
	t.Helper()
	for s, want := range l {
		if got, code := do(s); code != api.OK || got != want {
			t.Errorf("%s: %s, error %d, want %s", s, got, code, want)
		}
	}
}

// expectCodes expects the errors that a closure returns for strings.
func expectCodes(t *testing.T, l map[string]api.Errno, do func(s string) (string, api.Errno)) {
	t.Helper()
	for s, want := range l {
		if got, code := do(s); code != want {
			t.Errorf("%s: %s, error %d, want %d", s, got, code, want)
		}
	}
}

// with returns the call with another table in the present image.
func (x call) with(s api.Stored) call {
	x.l = slices.Clone(x.l)
	m := &x.l[len(x.l)-1]
	m.Tables = slices.DeleteFunc(slices.Clone(m.Tables), func(one api.Stored) bool { return one.Owner == s.Owner && one.Name == s.Name })
	m.Tables = append(m.Tables, s)
	slices.SortFunc(m.Tables, func(a, b api.Stored) int { return strings.Compare(a.Owner+" "+a.Name, b.Owner+" "+b.Name) })
	return x
}
