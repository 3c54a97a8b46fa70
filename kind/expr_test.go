package kind_test

import (
	"testing"

	"justiciar/api"
	"justiciar/kind"
)

// kids returns as many expressions as kinds, each at another place.
func kids(l []api.Kind) []api.Expr {
	var out []api.Expr
	for i := range l {
		out = append(out, api.Expr{Op: api.EConst, Line: 2, Col: i + 1})
	}
	return out
}

// expectOf expects the kind of an expression, or its error at one of its Kids, or, with -1, at itself.
func expectOf(t *testing.T, e api.Expr, l []api.Kind, want api.Kind, code api.Errno, at int) {
	t.Helper()
	e.Kids = kids(l)
	place := &e
	if at >= 0 {
		place = &e.Kids[at]
	}
	if k, where, got := kind.Of(&e, l); k != want || got != code || where != place {
		t.Errorf("%d %s of %v: kind %d error %d at column %d, want kind %d error %d at %d", e.Op, e.Text, l, k, got, where.Col, want, code, place.Col)
	}
}

func TestOf(t *testing.T) {
	const null, n, s, b = api.VNull, api.VInt, api.VText, api.VBool
	for _, k := range kinds() {
		e := api.Expr{Op: api.EConst, Val: api.Value{Kind: k}}
		if got, at, code := kind.Of(&e, nil); got != k || at != &e || code != api.OK {
			t.Error(k, got, code)
		}
		expectOf(t, api.Expr{Op: api.ENull}, []api.Kind{k}, b, api.OK, -1)
	}
	expectOf(t, api.Expr{Op: api.EUnary, Text: "-"}, []api.Kind{n}, n, api.OK, -1)
	expectOf(t, api.Expr{Op: api.EUnary, Text: "-"}, []api.Kind{s}, null, api.ErrType, -1)
	expectOf(t, api.Expr{Op: api.EBinary, Text: "||"}, []api.Kind{null, s}, s, api.OK, -1)
	expectOf(t, api.Expr{Op: api.EBinary, Text: "="}, []api.Kind{n, s}, null, api.ErrType, -1)
	for _, op := range []api.ExprOp{api.EName, api.ECall, api.EStar, api.EQuery, api.EExists, api.EMark, api.ECol, api.EBind, 0, 99} {
		expectOf(t, api.Expr{Op: op, Text: "-"}, nil, null, api.ErrKind, -1)
		expectOf(t, api.Expr{Op: op, Text: "-"}, []api.Kind{n}, null, api.ErrKind, -1)
	}
}

// What in and between are given is of one kind: the first that is of another one than those before it is wrong.
func TestOfAlike(t *testing.T) {
	for many := 1; many <= 4; many++ {
		for _, l := range lists(many) {
			at, common := -1, api.VNull
			for i, k := range l {
				if k != api.VNull && common != api.VNull && k != common && at < 0 {
					at = i
				}
				if common == api.VNull {
					common = k
				}
			}
			want, code := api.VBool, api.OK
			if at >= 0 {
				want, code = api.VNull, api.ErrType
			}
			expectOf(t, api.Expr{Op: api.EIn}, l, want, code, at)
			expectOf(t, api.Expr{Op: api.EIn, Not: true}, l, want, code, at)
			if many == 3 {
				expectOf(t, api.Expr{Op: api.EBetween}, l, want, code, at)
			}
		}
	}
}

func TestOfCase(t *testing.T) {
	const null, n, s, b = api.VNull, api.VInt, api.VText, api.VBool
	e := api.Expr{Op: api.ECase}
	for _, l := range [][]api.Kind{{b, n}, {null, n}, {b, null, b, n}, {b, n, b, n}, {b, n, n}, {b, null, n}, {b, n, null}, {null, null, null, n, null}} {
		expectOf(t, e, l, n, api.OK, -1)
	}
	expectOf(t, e, []api.Kind{b, null}, null, api.OK, -1)
	expectOf(t, e, []api.Kind{b, null, b, null, null}, null, api.OK, -1)
	expectOf(t, e, []api.Kind{b, b, b}, b, api.OK, -1)
	expectOf(t, e, []api.Kind{n, n}, null, api.ErrType, 0)
	expectOf(t, e, []api.Kind{b, n, s, n}, null, api.ErrType, 2)
	expectOf(t, e, []api.Kind{b, n, s, s, n}, null, api.ErrType, 2)
	expectOf(t, e, []api.Kind{b, n, b, s, n}, null, api.ErrType, 3)
	expectOf(t, e, []api.Kind{b, n, b, n, s}, null, api.ErrType, 4)
	expectOf(t, e, []api.Kind{b, null, b, n, s}, null, api.ErrType, 4)
}
