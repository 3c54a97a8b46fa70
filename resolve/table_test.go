package resolve_test

import (
	"fmt"
	"reflect"
	"strings"
	"testing"

	"justiciar/api"
	"justiciar/resolve"
)

// P7.3
func TestExpr(t *testing.T) {
	x := call{world(t), "u", variables()}
	for _, one := range []struct {
		table, s, want string
		k              api.Kind
	}{
		{"t", "a", "a@0.0.0", api.VInt}, {"t", "t.b", "t.b@0.0.1", api.VText}, {"t", "a > v and c", "and(>(a@0.0.0, v$0), c@0.0.2)", api.VBool}, {"t", "null", "null", api.VNull}, {"t", "'x'", "'x'", api.VText},
		{"t", ":new.a = a and :old.a = b", "and(=(:new.a$3, a@0.0.0), =(:old.a$4, b@0.0.1))", api.VBool}, {"one", "a", "a$2", api.VBool}, {"one", "one.k in (1, pack.n)", "in(one.k@0.0.0, 1, pack.n$5)", api.VBool}, {"s", "nvl(x, a)", "nvl(x@0.0.1, a@0.0.0)", api.VInt},
		{"t", "case when c then b end", "case(c@0.0.2, b@0.0.1)", api.VText},
	} {
		x.expectExpr(t, one.table, one.s, one.want, one.k)
	}
	for _, one := range []expected{
		{"^zzz", api.ErrName, "zzz"}, {"^s.a", api.ErrName, "s.a"}, {"^u.t.a", api.ErrName, "u.t.a"}, {"^t.zzz", api.ErrName, "t.zzz"}, {"a ^+ b", api.ErrType, "+"}, {"^none(a)", api.ErrName, "none"},
		{"a = ^(select x from s)", api.ErrKind, ""}, {"a = ^(select zzz from none)", api.ErrKind, ""}, {"^exists (select x from s)", api.ErrKind, ""}, {"^count(*) = 1", api.ErrKind, "count"}, {"abs(^sum(a))", api.ErrKind, "sum"}, {"^sum(a, b)", api.ErrKind, "sum"}, {"sum(^max(a))", api.ErrKind, "max"}, {"^c%found", api.ErrKind, "c"},
		{"sum(^zzz) = 1", api.ErrName, "zzz"}, {"a in (b, ^(select x from s))", api.ErrKind, ""},
	} {
		x.expectExprFault(t, "t", one.s, one.code, one.name)
	}
	w := call{world(t), "w", nil}
	w.expectExpr(t, "t", "d = 1 or t.e = 'x'", "or(=(d@0.0.0, 1), =(t.e@0.0.1, 'x'))", api.VBool)
	w.expectExprFault(t, "t", "^a", api.ErrName, "a")
}

// P7.4
func TestColumns(t *testing.T) {
	c := world(t)
	for _, one := range []struct {
		user, path string
		want       string
		code       api.Errno
	}{
		{"u", "t", "a int, b text, c bool", api.OK}, {"u", "u.t", "a int, b text, c bool", api.OK}, {"w", "t", "d int, e text", api.OK}, {"u", "w.t", "d int, e text", api.OK}, {"w", "u.one", "k int", api.OK},
		{"u", "v", "a int, n text, m bool", api.OK}, {"w", "v", "d int, e text", api.OK}, {"u", "two", "a int, a int, y text", api.OK}, {"u", "nix", "z null, a int", api.OK}, {"u", "w.far", "a int", api.OK},
		{"u", "none", "", api.ErrName}, {"w", "s", "", api.ErrName}, {"u", "w.s", "", api.ErrName}, {"u", "t.a", "", api.ErrName}, {"u", "", "", api.ErrName}, {"u", "u.t.a", "", api.ErrName},
		{"u", "i", "", api.ErrKind}, {"w", "u.seq", "", api.ErrKind}, {"u", "p", "", api.ErrKind}, {"u", "pack", "", api.ErrKind}, {"u", "g", "", api.ErrKind},
		{"u", "w.bad", "", api.ErrBad}, {"u", "worse", "", api.ErrBad}, {"w", "bad", "", api.ErrBad},
		{"x", "u.t", "", api.ErrArg}, {"", "u.t", "", api.ErrArg}, {"all", "none", "", api.ErrArg},
	} {
		l, code := resolve.Columns(c, one.user, strings.Split(one.path, "."))
		if shownNames(l) != one.want || code != one.code {
			t.Errorf("%s %s: %s error %d, want %s error %d", one.user, one.path, shownNames(l), code, one.want, one.code)
		}
	}
	for _, path := range [][]string{nil, {}, {"u", "t", "a"}} {
		if l, code := resolve.Columns(c, "u", path); len(l) > 0 || code != api.ErrName {
			t.Error(path, l, code)
		}
	}
	was := encoded(c)
	for _, name := range []string{"t", "v"} {
		l, _ := resolve.Columns(c, "u", []string{name})
		scribble(reflect.ValueOf(&l).Elem())
	}
	if encoded(c) != was {
		t.Error("the catalog has changed")
	}
	c.Stamp = 0
	if l, code := resolve.Columns(c, "u", []string{"t"}); len(l) > 0 || code != api.ErrArg {
		t.Error(l, code)
	}
}

// P7.4
func TestUses(t *testing.T) {
	c := world(t)
	for _, one := range []struct {
		user, s, want string
		code          api.Errno
	}{
		{"u", "select a from t", "u.t", api.OK}, {"w", "select d from t", "w.t", api.OK}, {"u", "select 1 from t x, w.v, s, t", "u.s u.t w.v", api.OK}, {"u", "select 1 from v, v x", "u.v", api.OK},
		{"u", "select (select max(x) from s) from w.t where exists (select 1 from one where k in (1, (select a from nix)))", "u.nix u.one u.s w.t", api.OK},
		{"u", "select 1 from t group by (select max(a) from s) having exists (select 1 from w.far) order by (select 1 from one)", "u.one u.s u.t w.far", api.OK},
		{"u", "select sum((select max(a) from w.far)) from w.t as of v", "w.far w.t", api.OK},
		{"u", "select * from two", "u.two", api.OK}, {"u", "select a from t for update", "u.t", api.OK},
		{"u", "select a from none", "", api.ErrName}, {"u", "select a from i", "", api.ErrKind}, {"u", "select a from w.bad", "", api.ErrBad}, {"u", "select zzz from t", "", api.ErrName}, {"u", "select a from t, t", "", api.ErrTwice}, {"u", "select a + b from t", "", api.ErrType}, {"u", "select a, count(*) from t", "", api.ErrGroup}, {"x", "select 1 from u.t", "", api.ErrArg},
	} {
		l, code := resolve.Uses(c, one.user, variables(), queryOf(t, one.s))
		var keys []string
		for _, key := range l {
			keys = append(keys, key[0]+"."+key[1])
		}
		if got := strings.Join(keys, " "); got != one.want || code != one.code {
			t.Errorf("%s: %s error %d, want %s error %d", one.s, got, code, one.want, one.code)
		}
	}
	if l, code := resolve.Uses(c, "u", nil, api.Query{}); len(l) > 0 || code != api.ErrArg {
		t.Error(l, code)
	}
}

// refusedBy expects that all functions refuse their arguments, which are right but for something.
func (x call) refusedBy(t *testing.T, what string) {
	t.Helper()
	none := api.Fault{Code: api.ErrArg}
	if _, _, f := x.query(t, queryOf(t, "select 1 from u.t")); f != none {
		t.Errorf("Query, %s: %v", what, f)
	}
	if _, f := x.change(t, changeOf(t, "delete from u.t")); f != none {
		t.Errorf("Change, %s: %v", what, f)
	}
	if _, _, f := x.expr(t, "t", exprOf(t, "1")); f != none {
		t.Errorf("Expr, %s: %v", what, f)
	}
	if l, code := resolve.Uses(x.c, x.user, x.binds, queryOf(t, "select 1 from u.t")); len(l) > 0 || code != api.ErrArg {
		t.Errorf("Uses, %s: %v %d", what, l, code)
	}
}

// accepted expects that all functions take their arguments.
func (x call) accepted(t *testing.T, what string) {
	t.Helper()
	_, _, f := x.query(t, queryOf(t, "select 1 from u.t"))
	_, fChange := x.change(t, changeOf(t, "delete from u.t"))
	_, _, fExpr := x.expr(t, "t", exprOf(t, "1"))
	if f != (api.Fault{}) || fChange != (api.Fault{}) || fExpr != (api.Fault{}) {
		t.Errorf("%s: %v %v %v", what, f, fChange, fExpr)
	}
}

// P7.1 to P7.4: binds that are not valid.
func TestBinds(t *testing.T) {
	c := world(t)
	long := strings.Repeat("x", 60)
	bind := func(k api.Kind, v api.Value, path ...string) api.Bind { return api.Bind{Path: path, Type: k, Val: v} }
	num, text, yes := api.Value{Kind: api.VInt, N: 1}, api.Value{Kind: api.VText, Text: "a"}, api.Value{Kind: api.VBool, N: 1}
	var many []api.Bind
	for i := range 201 {
		many = append(many, bind(api.VInt, num, "b", fmt.Sprint(i)))
	}
	for what, l := range map[string][]api.Bind{
		"no path":                  {bind(api.VInt, num)},
		"a path of four":           {bind(api.VInt, num, "a", "b", "c", "d")},
		"an empty string":          {bind(api.VInt, num, "")},
		"an empty string behind":   {bind(api.VInt, num, "a", "")},
		"a string too long":        {bind(api.VInt, num, long+"x")},
		"one too long behind":      {bind(api.VInt, num, "a", "b", long+"x")},
		"the same path":            {bind(api.VInt, num, "a"), bind(api.VText, text, "a")},
		"the same path far behind": {bind(api.VInt, num, "a", "b"), bind(api.VInt, num, "a"), bind(api.VInt, num, "a", "b")},
		"no type":                  {bind(api.VNull, api.Value{}, "a")},
		"type 4":                   {bind(4, api.Value{}, "a")},
		"type -1":                  {bind(-1, api.Value{}, "a")},
		"another kind":             {bind(api.VInt, text, "a")},
		"another kind, too":        {bind(api.VBool, num, "a")},
		"and another one":          {bind(api.VText, yes, "a")},
		"a value not valid":        {bind(api.VInt, api.Value{Kind: api.VInt, N: api.MaxInt + 1}, "a")},
		"a null not valid":         {bind(api.VInt, api.Value{N: 1}, "a")},
		"the last one":             {bind(api.VInt, num, "a"), bind(api.VText, num, "b")},
		"too many":                 many,
	} {
		call{c, "u", l}.refusedBy(t, what)
	}
	for what, l := range map[string][]api.Bind{
		"none":            {},
		"all kinds":       {bind(api.VInt, num, "a"), bind(api.VText, text, "b"), bind(api.VBool, yes, "c")},
		"nulls":           {bind(api.VInt, api.Value{}, "a"), bind(api.VText, api.Value{}, "b"), bind(api.VBool, api.Value{}, "c")},
		"long paths":      {bind(api.VInt, num, long, long, long), bind(api.VInt, num, long, long), bind(api.VInt, num, long)},
		"the same string": {bind(api.VInt, num, "a", "a", "a"), bind(api.VInt, num, "a", "a"), bind(api.VInt, num, "a.a"), bind(api.VInt, num, "aa"), bind(api.VInt, num, "a")},
		"any bytes":       {bind(api.VInt, num, "\x00", " ", "ä"), bind(api.VInt, num, "A", "select")},
		"many":            many[:200],
	} {
		call{c, "u", l}.accepted(t, what)
	}
	x := call{c, "u", []api.Bind{bind(api.VInt, num, "q.r"), bind(api.VText, text, "r", "q"), bind(api.VBool, yes, "q", "r")}}
	x.expectQuery(t, "select q.r, r.q from one", "select q.r$2, r.q$1 from u.one one", "r bool, q text")
	x.binds = many[:200]
	x.binds[199] = bind(api.VText, text, "last")
	x.expectQuery(t, "select last from one", "select last$199 from u.one one", "last text")
}

// P7.1 to P7.3: other arguments that are not valid.
func TestArguments(t *testing.T) {
	c := world(t)
	for _, user := range []string{"", "x", "U", "all", "t"} {
		call{c, user, nil}.refusedBy(t, "user "+user)
	}
	bad := copied(c)
	bad.Objects[0], bad.Objects[1] = bad.Objects[1], bad.Objects[0]
	call{bad, "u", nil}.refusedBy(t, "a catalog that is not valid")
	bad = copied(c)
	bad.Users = nil
	call{bad, "u", nil}.refusedBy(t, "a catalog without users")
	x := call{c, "u", variables()}
	x.accepted(t, "the world")
	none := api.Fault{Code: api.ErrArg}
	right := queryOf(t, "select a from t")
	for what, change := range map[string]func(q *api.Query){
		"nothing":         func(q *api.Query) { *q = api.Query{} },
		"no sources":      func(q *api.Query) { q.From = nil },
		"Star and List":   func(q *api.Query) { q.Star = true },
		"a negative Line": func(q *api.Query) { q.Line = -1 },
		"an ECol":         func(q *api.Query) { q.List[0].Expr = api.Expr{Op: api.ECol} },
		"an EBind":        func(q *api.Query) { q.List[0].Expr = api.Expr{Op: api.EBind} },
		"Lock within": func(q *api.Query) {
			q.Where = []api.Expr{{Op: api.EExists, Query: []api.Query{queryOf(t, "select a from t for update")}}}
		},
	} {
		q := copied(right)
		change(&q)
		if _, _, f := x.query(t, q); f != none {
			t.Errorf("%s: %v", what, f)
		}
	}
	for what, h := range map[string]api.Change{
		"nothing": {}, "no Vals": {Op: api.CInsert, Path: []string{"t"}}, "a path of three": {Op: api.CDelete, Path: []string{"u", "t", "a"}}, "Lock": {Op: api.CInsert, Path: []string{"t"}, Query: []api.Query{queryOf(t, "select a, b, c from t for update")}},
	} {
		if _, f := x.change(t, h); f != none {
			t.Errorf("%s: %v", what, f)
		}
	}
	for what, e := range map[string]api.Expr{"nothing": {}, "an ECol": {Op: api.ECol}, "a negative constant": {Op: api.EConst, Val: api.Value{Kind: api.VInt, N: -1}}} {
		if _, _, f := x.expr(t, "t", e); f != none {
			t.Errorf("%s: %v", what, f)
		}
	}
	for _, name := range []string{"", "none", "v", "i", "seq", "p", "g", "u.t"} {
		if _, _, f := x.expr(t, name, exprOf(t, "1")); f != none {
			t.Errorf("table %s: %v", name, f)
		}
	}
}

// What is resolved already is not valid.
func TestResolved(t *testing.T) {
	x := call{world(t), "u", variables()}
	r, _, _ := x.query(t, queryOf(t, "select a from t"))
	if _, _, f := x.query(t, r); f != (api.Fault{Code: api.ErrArg}) {
		t.Error(f)
	}
}
