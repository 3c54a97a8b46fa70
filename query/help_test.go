package query_test

import (
	"encoding/json"
	"fmt"
	"reflect"
	"slices"
	"strings"
	"testing"

	"justiciar/api"
	"justiciar/expr"
	"justiciar/query"
)

// kind is what the package does with trees of one kind.
type kind[T any] struct {
	parse func(s string) (T, api.Fault)
	text  func(x T) (string, api.Errno)
	valid func(x T) bool
	same  func(a, b T) bool
	paths func(x T) ([][]string, api.Errno)
}

func queries() kind[api.Query] {
	return kind[api.Query]{query.Parse, query.Text, query.Valid, query.Same, query.Paths}
}

func changes() kind[api.Change] {
	return kind[api.Change]{query.ParseChange, query.TextChange, query.ValidChange, query.SameChange, query.PathsChange}
}

// tree returns the tree of a string that has to have one.
func (k kind[T]) tree(t *testing.T, s string) T {
	t.Helper()
	x, f := k.parse(s)
	if f != (api.Fault{}) {
		t.Fatalf("%.200q: %v", s, f)
	}
	return x
}

// string returns the string of a tree that has to have one.
func (k kind[T]) string(t *testing.T, x T) string {
	t.Helper()
	s, code := k.text(x)
	if code != api.OK {
		t.Fatalf("%s: error %d", short(x), code)
	}
	return s
}

func (k kind[T]) expectFault(t *testing.T, s string, code api.Errno, name string, line, col int) {
	t.Helper()
	var none T
	x, f := k.parse(s)
	if want := (api.Fault{Code: code, Name: name, Line: line, Col: col}); f != want || !reflect.DeepEqual(x, none) {
		t.Errorf("%.200q: %s %v, want %v", s, short(x), f, want)
	}
}

// expectWrong expects that a tree is not valid, and has no string and no paths.
func (k kind[T]) expectWrong(t *testing.T, what string, x T) {
	t.Helper()
	if k.valid(x) {
		t.Errorf("valid: %s: %s", what, short(x))
	}
	if s, code := k.text(x); s != "" || code != api.ErrArg {
		t.Errorf("%s: Text %q, error %d", what, s, code)
	}
	if l, code := k.paths(x); len(l) != 0 || code != api.ErrArg {
		t.Errorf("%s: Paths %v, error %d", what, l, code)
	}
}

// sample is a string, its tree without positions, the tree's string, and its paths.
type sample[T any] struct {
	text  string
	tree  T
	want  string
	paths string
}

// short returns what a message says of a tree.
func short(x any) string { return fmt.Sprintf("%.400s", fmt.Sprint(x)) }

func path(s string) []string { return strings.Split(s, ".") }

// ex returns the expression that layer 3 reads, without positions.
func ex(s string) api.Expr {
	e, f := expr.Parse(s)
	if f.Code != api.OK {
		panic(s)
	}
	return bare(e)
}

func exs(l ...string) []api.Expr {
	var all []api.Expr
	for _, s := range l {
		all = append(all, ex(s))
	}
	return all
}

func items(l ...string) []api.Item {
	var all []api.Item
	for _, e := range exs(l...) {
		all = append(all, api.Item{Expr: e})
	}
	return all
}

func orders(l ...string) []api.Order {
	var all []api.Order
	for _, e := range exs(l...) {
		all = append(all, api.Order{Expr: e})
	}
	return all
}

func from(l ...string) []api.Source {
	var all []api.Source
	for _, s := range l {
		all = append(all, api.Source{Path: path(s)})
	}
	return all
}

// asOf returns a source with a time and perhaps a name.
func asOf(p, time, name string) api.Source {
	return api.Source{Path: path(p), AsOf: exs(time), As: name}
}

// copied returns a tree that shares no memory with the one that it is a copy of.
func copied[T any](x T) T {
	var c T
	b, err := json.Marshal(x)
	if err == nil {
		err = json.Unmarshal(b, &c)
	}
	if err != nil {
		panic(err)
	}
	return c
}

// visit calls a closure with each part of a tree that has a name: its fields, and the elements of these, each ahead of those within it.
func visit(v reflect.Value, name string, do func(name string, v reflect.Value)) {
	do(name, v)
	switch v.Kind() {
	case reflect.Struct:
		for i := range v.NumField() {
			visit(v.Field(i), v.Type().Field(i).Name, do)
		}
	case reflect.Slice:
		for i := range v.Len() {
			visit(v.Index(i), name, do)
		}
	}
}

// placed returns a copy of a tree with the positions that a closure gives.
func placed[T any](x T, position func() int) T {
	c := copied(x)
	visit(reflect.ValueOf(&c).Elem(), "", func(name string, v reflect.Value) {
		if name == "Line" || name == "Col" {
			v.SetInt(int64(position()))
		}
	})
	return c
}

// bare returns a copy of a tree without positions.
func bare[T any](x T) T { return placed(x, func() int { return 0 }) }

// altered returns copies of a tree, each with one alteration: of a value, or a list with an element more, less, or its elements the other way round.
func altered[T any](x T) []T {
	var all []T
	for number, more := 0, true; more; number++ {
		c := copied(x)
		more = alter(reflect.ValueOf(&c).Elem(), number)
		if more {
			all = append(all, c)
		}
	}
	return all
}

// alter makes the alteration with a number, if there are so many.
func alter(x reflect.Value, number int) bool {
	at := -1
	next := func() bool { at++; return at == number }
	visit(x, "", func(name string, v reflect.Value) {
		if at >= number || name == "Line" || name == "Col" {
			return
		}
		switch v.Kind() {
		case reflect.Int:
			if next() {
				v.SetInt(v.Int() + 1)
			}
		case reflect.Bool:
			if next() {
				v.SetBool(!v.Bool())
			}
		case reflect.String:
			if next() {
				v.SetString(v.String() + "x")
			}
		case reflect.Slice:
			alterList(v, next)
		}
	})
	return at == number
}

func alterList(v reflect.Value, next func() bool) {
	if next() {
		v.Set(reflect.Append(v, reflect.Zero(v.Type().Elem())))
		return
	}
	if v.Len() > 0 && next() {
		v.Set(v.Slice(0, v.Len()-1))
		return
	}
	for i := range v.Len() {
		if i > 0 && !reflect.DeepEqual(v.Index(0).Interface(), v.Index(i).Interface()) && next() {
			a, b := v.Index(0).Interface(), v.Index(i).Interface()
			v.Index(0).Set(reflect.ValueOf(b))
			v.Index(i).Set(reflect.ValueOf(a))
			return
		}
	}
}

// many returns a string n times, with commas between.
func many(n int, s string) string { return strings.Join(slices.Repeat([]string{s}, n), ",") }
