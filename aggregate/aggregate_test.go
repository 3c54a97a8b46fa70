package aggregate_test

import (
	"testing"

	"justiciar/aggregate"
	"justiciar/expr"
	"justiciar/query"
)

func TestIs(t *testing.T) {
	for s, want := range map[string]bool{
		"count(*)": true, "count(a)": true, "count(1, 2)": true, "sum(a + 1)": true, "min(a)": true, "max(b)": true, "sum()": true,
		"a": false, "sum": false, "1": false, "abs(sum(a))": false, "sum(a) + 1": false, "t.sum(a)": false, "nvl(a, b)": false, "(select sum(a) from t)": false, "- count(*)": false,
	} {
		e, f := expr.Parse(s)
		if f.Code != 0 {
			t.Fatal(s, f)
		}
		if got := aggregate.Is(&e); got != want {
			t.Errorf("%s: %v", s, got)
		}
	}
}

func TestGroups(t *testing.T) {
	for s, want := range map[string]bool{
		"select a from t": false, "select * from t where a = 1 order by a": false, "select distinct a from t": false, "select a from t for update": false,
		"select a from t group by a": true, "select a from t having true": true, "select 1 from t group by 2 having a = 1": true,
		"select count(*) from t": true, "select a, 1 + abs(sum(a)) from t": true, "select case when a then b else min(c) end from t": true, "select a from t order by b, count(*) > 1": true, "select a in (1, max(a)) from t": true,
		"select (select count(*) from s) from t":                     false,
		"select a from t where exists (select sum(a) from s)":        false,
		"select a from t order by (select b from s group by b)":      false,
		"select exists (select 1 from s having true), min(a) from t": true,
		"select sum((select a from s)) from t":                       true,
	} {
		q, f := query.Parse(s)
		if f.Code != 0 {
			t.Fatal(s, f)
		}
		if got := aggregate.Groups(&q); got != want {
			t.Errorf("%s: %v", s, got)
		}
	}
}
