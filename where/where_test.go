package where_test

import (
	"fmt"
	"reflect"
	"strings"
	"testing"

	"justiciar/api"
	"justiciar/catalog"
	"justiciar/expr"
	"justiciar/query"
	"justiciar/resolve"
	"justiciar/unit"
	"justiciar/value"
	"justiciar/where"
)

func number(n int) api.Value { return api.Value{Kind: api.VInt, N: n} }

func text(s string) api.Value { return api.Value{Kind: api.VText, Text: s} }

func truth(n int) api.Value { return api.Value{Kind: api.VBool, N: n} }

func binds() []api.Bind {
	return []api.Bind{{Path: []string{"v"}, Type: api.VInt, Val: number(7)}, {Path: []string{":new", "b"}, Type: api.VText}, {Path: []string{"k"}, Type: api.VText, Val: text("k")}}
}

// resolved returns what a condition over the tables t (a int, b text, c bool) and s (a int, x int) is resolved to.
func resolved(t *testing.T, s string) api.Query {
	t.Helper()
	c, _ := catalog.New([]string{"u"})
	for _, text := range []string{"create table t (a int, b text, c bool);", "create table s (a int, x int);"} {
		d, _ := unit.ParseDef(text)
		n, code := catalog.Do(c, "u", d)
		if code != api.OK {
			t.Fatal(text, code)
		}
		c = n
	}
	q, f := query.Parse("select 1 from t, s" + s)
	r, _, found := resolve.Query(c, "u", binds(), q)
	if f.Code != api.OK || found.Code != api.OK {
		t.Fatal(s, f, found)
	}
	return r
}

// shown returns a part as it was written: its names have stayed.
func shown(t *testing.T, e *api.Expr) string {
	t.Helper()
	one := *e
	var back func(e *api.Expr)
	back = func(e *api.Expr) {
		if e.Op == api.ECol || e.Op == api.EBind {
			e.Op, e.A, e.B, e.C = api.EName, 0, 0, 0
		}
		kids := append([]api.Expr{}, e.Kids...)
		for i := range kids {
			back(&kids[i])
		}
		e.Kids = kids
		e.Query = nil
		if e.Op == api.EExists || e.Op == api.EQuery {
			*e = api.Expr{Op: api.EName, Path: []string{"inner"}}
		}
	}
	back(&one)
	s, code := expr.Text(one)
	if code != api.OK {
		t.Fatal(one, code)
	}
	return s
}

func TestSplit(t *testing.T) {
	null, seven := api.Value{}, number(7)
	for _, x := range []struct {
		s      string
		simple []where.Equal
		others []string
	}{
		{"", nil, nil},
		{" where t.a = 1", []where.Equal{{0, 0, number(1)}}, nil},
		{" where 1 = t.a", []where.Equal{{0, 0, number(1)}}, nil},
		{" where s.a = v", []where.Equal{{1, 0, seven}}, nil},
		{" where v = x", []where.Equal{{1, 1, seven}}, nil},
		{" where b = :new.b", []where.Equal{{0, 1, null}}, nil},
		{" where c = true", []where.Equal{{0, 2, truth(1)}}, nil},
		{" where null = b", []where.Equal{{0, 1, null}}, nil},
		{" where c", nil, []string{"c"}},
		{" where b <> 'x'", nil, []string{"b <> 'x'"}},
		{" where not b = 'x'", nil, []string{"not ( b = 'x' )"}},
		{" where t.a = x", nil, []string{"t . a = x"}},
		{" where t.a = t.a", nil, []string{"t . a = t . a"}},
		{" where 1 = 1", nil, []string{"1 = 1"}},
		{" where v = 1", nil, []string{"v = 1"}},
		{" where t.a = -1", nil, []string{"t . a = ( - 1 )"}},
		{" where t.a + 0 = 1", nil, []string{"( t . a + 0 ) = 1"}},
		{" where b in ('x')", nil, []string{"b in ( 'x' )"}},
		{" where b like 'x'", nil, []string{"b like 'x'"}},
		{" where b = 'x' or x = 1", nil, []string{"( b = 'x' ) or ( x = 1 )"}},
		{" where (b = 'x') = true", nil, []string{"( b = 'x' ) = true"}},
		{" where t.a = (select 1 from s where s.a = 2)", nil, []string{"t . a = inner"}},
		{" where b = 'x' and (x = 1 or c) and ((b = k and t.a = 2) and not c) and 'x' = b",
			[]where.Equal{{0, 1, text("x")}, {0, 1, text("k")}, {0, 0, number(2)}, {0, 1, text("x")}}, []string{"( x = 1 ) or c", "not c"}},
		{" where c and (x = 3 and (t.a = 1 and x = 2)) and b is null", []where.Equal{{1, 1, number(3)}, {0, 0, number(1)}, {1, 1, number(2)}}, []string{"c", "b is null"}},
		{" where not (c and x = 1) and x = 2", []where.Equal{{1, 1, number(2)}}, []string{"not ( c and ( x = 1 ) )"}},
	} {
		q := resolved(t, x.s)
		simple, parts := where.Split(q.Where, binds())
		var others []string
		for _, e := range parts {
			others = append(others, shown(t, e))
		}
		if !reflect.DeepEqual(simple, x.simple) || !reflect.DeepEqual(others, x.others) {
			t.Errorf("%s: %v and %q, want %v and %q", x.s, simple, others, x.simple, x.others)
		}
	}
}

// TestSplitInner: a column of a query around this one is none of this query's.
func TestSplitInner(t *testing.T) {
	q := resolved(t, " where exists (select 1 from s where t.a = 1 and b = k and x = 2 and 3 = s.a and t.c = (s.x > 1))")
	inner := q.Where[0].Query[0]
	simple, others := where.Split(inner.Where, binds())
	var all []string
	for _, e := range others {
		all = append(all, shown(t, e))
	}
	want := "t . a = 1, b = k, t . c = ( s . x > 1 )"
	if got := fmt.Sprint(simple); got != fmt.Sprint([]where.Equal{{0, 1, number(2)}, {0, 0, number(3)}}) || strings.Join(all, ", ") != want {
		t.Error(got, all)
	}
	if &inner.Where[0].Kids[1] != others[2] {
		t.Error("a part is not that of the query itself")
	}
}

func TestHolds(t *testing.T) {
	row := api.Row{number(1), text("x"), {}, truth(0)}
	for _, x := range []struct {
		col  int
		val  api.Value
		want bool
	}{
		{0, number(1), true}, {0, number(2), false}, {0, number(-1), false}, {0, api.Value{}, false},
		{1, text("x"), true}, {1, text("X"), false}, {1, text(""), false}, {1, api.Value{}, false},
		{2, number(0), false}, {2, text(""), false}, {2, api.Value{}, false},
		{3, truth(0), true}, {3, truth(1), false},
		{4, number(1), false}, {4, api.Value{}, false}, {19, number(0), false},
	} {
		if got := (where.Equal{Source: 3, Col: x.col, Val: x.val}).Holds(row); got != x.want {
			t.Error(x, got)
		}
		if x.col < len(row) {
			if v, _ := value.Binary("=", row[x.col], x.val); value.True(v) != x.want {
				t.Error(x, v)
			}
		}
	}
	if (where.Equal{}).Holds(nil) {
		t.Error("a row without values")
	}
}
