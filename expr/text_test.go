package expr_test

import (
	"testing"

	"justiciar/api"
	"justiciar/expr"
)

// P3.2
func TestText(t *testing.T) {
	for _, x := range samples() {
		if s := textOf(t, x.expr); s != x.want {
			t.Errorf("%s, want %s", s, x.want)
		}
	}
}

// P3.2: round brackets around operations that are Kids, but for those in lists.
func TestTextOfKids(t *testing.T) {
	ops := map[string]api.Expr{
		"- x": un("-", name("x")), "not x": un("not", name("x")), "x + y": bin("+", name("x"), name("y")), "x or y": bin("or", name("x"), name("y")), "x is null": of(api.ENull, name("x")), "x is not null": not(of(api.ENull, name("x"))), "x in ( y )": of(api.EIn, name("x"), name("y")), "x between y and z": of(api.EBetween, name("x"), name("y"), name("z")),
	}
	others := map[string]api.Expr{
		"7": num(7), "null": null(), "x . y": name("x.y"), ": old . x": ofRow("old.x"), "case when x then y end": of(api.ECase, name("x"), name("y")), "f ( x )": call("f", name("x")), "count ( * )": of(api.EStar), "( select a from t )": sub(plain()), "exists ( select a from t )": exists(plain()), "x % found": mark("x", "found"),
	}
	check := func(inner, bracketed string, e api.Expr) {
		for want, outer := range map[string]api.Expr{
			"- " + bracketed: un("-", e), "not " + bracketed: un("not", e), bracketed + " = " + bracketed: bin("=", e, e), bracketed + " and " + bracketed: bin("and", e, e), bracketed + " is null": of(api.ENull, e),
			bracketed + " in ( " + inner + " , " + inner + " )":                 of(api.EIn, e, e, e),
			bracketed + " between " + bracketed + " and " + bracketed:           of(api.EBetween, e, e, e),
			"case when " + inner + " then " + inner + " else " + inner + " end": of(api.ECase, e, e, e),
			"g ( " + inner + " , " + inner + " )":                               call("g", e, e),
			"count ( " + inner + " )":                                           call("count", e),
			"( select " + inner + " as b from t as of " + bracketed + " x where " + inner + " group by " + inner + " , " + inner + " having " + inner + " order by " + inner + " desc , " + inner + " )": sub(api.Query{
				List: []api.Item{{Expr: e, As: "b"}}, From: []api.Source{{Path: path("t"), AsOf: list(e), As: "x"}}, Where: list(e), Group: list(e, e), Having: list(e), Order: []api.Order{{Expr: e, Desc: true}, {Expr: e}}}),
		} {
			if s := textOf(t, outer); s != want {
				t.Errorf("%s, want %s", s, want)
			}
		}
	}
	for s, e := range ops {
		check(s, "( "+s+" )", e)
	}
	for s, e := range others {
		check(s, s, e)
	}
}

// P3.2: what is not valid has no string.
func TestTextErrors(t *testing.T) {
	for what, e := range wrong() {
		if s, code := expr.Text(e); s != "" || code != api.ErrArg {
			t.Errorf("%s: %q error %d", what, s, code)
		}
	}
}
