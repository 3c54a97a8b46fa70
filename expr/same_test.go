package expr_test

import (
	"reflect"
	"testing"

	"justiciar/api"
	"justiciar/expr"
)

// moved returns a copy of an expression (or a query, or a part of these) with other positions, which a closure gives, and without empty slices.
func moved(v reflect.Value, position func() int) reflect.Value {
	x := reflect.New(v.Type()).Elem()
	switch v.Kind() {
	case reflect.Struct:
		for i := range v.NumField() {
			x.Field(i).Set(moved(v.Field(i), position))
			if s := v.Type().Field(i).Name; s == "Line" || s == "Col" {
				x.Field(i).SetInt(int64(position()))
			}
		}
	case reflect.Slice:
		for i := range v.Len() {
			x.Set(reflect.Append(x, moved(v.Index(i), position)))
		}
	default:
		x.Set(v)
	}
	return x
}

func movedExpr(e api.Expr, position func() int) api.Expr {
	return moved(reflect.ValueOf(e), position).Interface().(api.Expr)
}

// bare returns a copy without positions.
func bare(e api.Expr) api.Expr { return movedExpr(e, func() int { return 0 }) }

// changed returns copies of an expression (or a part), each with one change somewhere: a field, an element, or one more or less of a list.
func changed(v reflect.Value) []reflect.Value {
	var all []reflect.Value
	with := func(set func(x reflect.Value)) {
		x := reflect.New(v.Type()).Elem()
		x.Set(moved(v, func() int { return 0 }))
		set(x)
		all = append(all, x)
	}
	switch v.Kind() {
	case reflect.Struct:
		for i := range v.NumField() {
			if s := v.Type().Field(i).Name; s == "Line" || s == "Col" {
				continue
			}
			for _, field := range changed(v.Field(i)) {
				with(func(x reflect.Value) { x.Field(i).Set(field) })
			}
		}
	case reflect.Slice:
		for i := range v.Len() {
			for _, element := range changed(v.Index(i)) {
				with(func(x reflect.Value) { x.Index(i).Set(element) })
			}
			with(func(x reflect.Value) { x.Set(reflect.AppendSlice(x.Slice3(0, i, i), x.Slice(i+1, x.Len()))) })
		}
		with(func(x reflect.Value) { x.Set(reflect.Append(x, reflect.Zero(v.Type().Elem()))) })
	case reflect.Bool:
		with(func(x reflect.Value) { x.SetBool(!v.Bool()) })
	case reflect.String:
		with(func(x reflect.Value) { x.SetString(v.String() + "x") })
	default:
		with(func(x reflect.Value) { x.SetInt(v.Int() + 1) })
	}
	return all
}

// P3.3: positions do not matter, nor does it what kind an empty list is.
func TestSame(t *testing.T) {
	n := -5
	for _, x := range samples() {
		a := parse(t, x.text)
		b := movedExpr(a, func() int { n++; return n * n * n })
		if !expr.Same(a, b) || !expr.Same(b, a) || !expr.Same(a, a) || !expr.Same(a, x.expr) {
			t.Error("not the same:", x.text)
		}
	}
	empty := api.Expr{Path: []string{}, Kids: []api.Expr{}, Query: []api.Query{}}
	if !expr.Same(empty, api.Expr{}) || !expr.Same(api.Expr{}, empty) {
		t.Error("empty lists are not the same as nil ones")
	}
	q := api.Query{List: []api.Item{}, From: []api.Source{}, Where: []api.Expr{}, Group: []api.Expr{}, Having: []api.Expr{}, Order: []api.Order{}}
	if !expr.Same(sub(q), sub(api.Query{})) {
		t.Error("empty lists of a query are not the same as nil ones")
	}
}

// P3.3: each other field matters, wherever it stands.
func TestNotSame(t *testing.T) {
	l := []api.Expr{{}, {Op: api.ECol, A: 1, B: 2, C: 3}, sub(api.Query{}), sub(api.Query{From: []api.Source{{}}, List: []api.Item{{}}, Order: []api.Order{{}}, Lock: true})}
	for _, x := range samples() {
		l = append(l, x.expr)
	}
	many := 0
	for _, a := range l {
		for _, v := range changed(reflect.ValueOf(a)) {
			b := v.Interface().(api.Expr)
			if expr.Same(a, b) || expr.Same(b, a) {
				t.Errorf("the same: %s and %s", short(a), short(b))
			}
			many++
		}
	}
	if many < 1000 {
		t.Error("too few were compared:", many)
	}
}

// P3.3: of two samples just those are the same that have the same fields.
func TestSameOfTwo(t *testing.T) {
	for _, x := range samples() {
		for _, y := range samples() {
			if got, want := expr.Same(x.expr, y.expr), reflect.DeepEqual(bare(x.expr), bare(y.expr)); got != want {
				t.Errorf("%s and %s: %v", x.text, y.text, got)
			}
		}
	}
}
