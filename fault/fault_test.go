package fault_test

import (
	"testing"

	"justiciar/api"
	"justiciar/expr"
	"justiciar/fault"
)

func TestExpr(t *testing.T) {
	for s, name := range map[string]string{
		"a": "a", "a.b.c": "a.b.c", ":new.a": "new.a", "f(1)": "f", "a.f(b)": "a.f", "count(*)": "count", "count(a)": "count", "c%found": "c", "sql%rowcount": "sql",
		"1 + 2": "+", "a || b": "||", "- a": "-", "not a": "not", "a and b": "and", "a like b": "like",
		"1": "", "'x'": "", "null": "", "a is null": "", "a in (b, c)": "", "a between b and c": "", "case when a then b end": "", "(select a from t)": "", "exists (select a from t)": "",
	} {
		e, f := expr.Parse(s)
		if f.Code != api.OK {
			t.Fatal(s, f)
		}
		e.Line, e.Col = 3, 5
		if got, want := fault.Expr(api.ErrType, &e), (api.Fault{Code: api.ErrType, Name: name, Line: 3, Col: 5}); got != want {
			t.Errorf("%s: %v, want %v", s, got, want)
		}
	}
}
