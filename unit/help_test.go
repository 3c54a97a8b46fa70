package unit_test

import (
	"encoding/json"
	"fmt"
	"reflect"
	"slices"
	"strings"
	"testing"

	"justiciar/api"
	"justiciar/expr"
	"justiciar/lex"
	"justiciar/query"
	"justiciar/unit"
)

// kind is what the package does with trees of one kind.
type kind[T any] struct {
	parse func(s string) (T, api.Fault)
	text  func(x T) (string, api.Errno)
	valid func(x T) bool
	same  func(a, b T) bool
}

func blocks() kind[api.Block] {
	return kind[api.Block]{unit.ParseBlock, unit.TextBlock, unit.ValidBlock, unit.SameBlock}
}

func defs() kind[api.Def] {
	return kind[api.Def]{unit.ParseDef, unit.TextDef, unit.ValidDef, unit.SameDef}
}

func scripts() kind[[]unit.Item] {
	valid := func(l []unit.Item) bool {
		_, code := unit.Text(l)
		return code != api.ErrArg
	}
	same := func(a, b []unit.Item) bool { return slices.EqualFunc(a, b, sameItem) }
	return kind[[]unit.Item]{unit.Parse, unit.Text, valid, same}
}

func sameItem(a, b unit.Item) bool {
	return slices.EqualFunc(a.Block, b.Block, unit.SameBlock) && slices.EqualFunc(a.Query, b.Query, query.Same) &&
		slices.EqualFunc(a.Change, b.Change, query.SameChange) && slices.EqualFunc(a.Def, b.Def, unit.SameDef)
}

// tree returns the tree of a string that has to have one.
func (k kind[T]) tree(t *testing.T, s string) T {
	t.Helper()
	x, f := k.parse(s)
	if f != (api.Fault{}) {
		t.Fatalf("%.300q: %v", s, f)
	}
	return x
}

// string returns the string of a tree that has to have one.
func (k kind[T]) string(t *testing.T, x T) string {
	t.Helper()
	s, code := k.text(x)
	if code != api.OK {
		t.Fatalf("%s: error %d", short(x), code)
	}
	return s
}

func (k kind[T]) expectFault(t *testing.T, s string, code api.Errno, name string, line, col int) {
	t.Helper()
	var none T
	x, f := k.parse(s)
	if want := (api.Fault{Code: code, Name: name, Line: line, Col: col}); f != want || !reflect.DeepEqual(x, none) {
		t.Errorf("%.300q: %s %v, want %v", s, short(x), f, want)
	}
}

// expectWrong expects that a tree is not valid, and has no string.
func (k kind[T]) expectWrong(t *testing.T, what string, x T) {
	t.Helper()
	if k.valid(x) {
		t.Errorf("valid: %s: %s", what, short(x))
	}
	if s, code := k.text(x); s != "" || code != api.ErrArg {
		t.Errorf("%s: Text %q, error %d", what, s, code)
	}
}

// expectRight expects that a tree is valid, and that its string is read as it is.
func (k kind[T]) expectRight(t *testing.T, what string, x T) {
	t.Helper()
	if !k.valid(x) {
		t.Errorf("not valid: %s: %s", what, short(x))
		return
	}
	s := k.string(t, x)
	if got := k.tree(t, s); !k.same(got, x) || k.string(t, got) != s {
		t.Errorf("%s: %.300q: %s, want %s", what, s, short(got), short(x))
	}
}

// sample is a string, its tree without positions, and the tree's string.
type sample[T any] struct {
	text string
	tree T
	want string
}

func expectTrees[T any](t *testing.T, k kind[T], l []sample[T]) {
	t.Helper()
	for _, x := range l {
		for _, s := range []string{x.text, x.want, " --\n\t" + x.text + "--"} {
			if got := k.tree(t, s); !k.same(got, x.tree) || !reflect.DeepEqual(bare(got), bare(x.tree)) {
				t.Errorf("%q: %s, want %s", s, short(got), short(x.tree))
			}
		}
		if got := k.string(t, x.tree); got != x.want {
			t.Errorf("Text %q, want %q", got, x.want)
		}
	}
}

// short returns what a message says of a tree.
func short(x any) string { return fmt.Sprintf("%.400s", fmt.Sprint(x)) }

func path(s string) []string { return strings.Split(s, ".") }

// ex returns the expression that layer 3 reads, without positions.
func ex(s string) api.Expr { return right(expr.Parse(s)) }

// qu returns the query that layer 4 reads, without positions.
func qu(s string) api.Query { return right(query.Parse(s)) }

// ch returns the change that layer 4 reads, without positions.
func ch(s string) api.Change { return right(query.ParseChange(s)) }

func right[T any](x T, f api.Fault) T {
	if f.Code != api.OK {
		panic(f)
	}
	return bare(x)
}

func exs(l ...string) []api.Expr {
	var all []api.Expr
	for _, s := range l {
		all = append(all, ex(s))
	}
	return all
}

// copied returns a tree that shares no memory with the one that it is a copy of.
func copied[T any](x T) T {
	var c T
	b, err := json.Marshal(x)
	if err == nil {
		err = json.Unmarshal(b, &c)
	}
	if err != nil {
		panic(err)
	}
	return c
}

// visit calls a closure with each part of a tree that has a name: its fields, and the elements of these, each ahead of those within it.
func visit(v reflect.Value, name string, do func(name string, v reflect.Value)) {
	do(name, v)
	switch v.Kind() {
	case reflect.Struct:
		for i := range v.NumField() {
			visit(v.Field(i), v.Type().Field(i).Name, do)
		}
	case reflect.Slice:
		for i := range v.Len() {
			visit(v.Index(i), name, do)
		}
	}
}

// placed returns a copy of a tree with the positions that a closure gives.
func placed[T any](x T, position func() int) T {
	c := copied(x)
	visit(reflect.ValueOf(&c).Elem(), "", func(name string, v reflect.Value) {
		if name == "Line" || name == "Col" {
			v.SetInt(int64(position()))
		}
	})
	return c
}

// bare returns a copy of a tree without positions.
func bare[T any](x T) T { return placed(x, func() int { return 0 }) }

// altered returns copies of a tree, each with one alteration: of a value, or a list with an element more, less, or two elements the other way round.
func altered[T any](x T) []T {
	var all []T
	for number, more := 0, true; more; number++ {
		c := copied(x)
		more = alter(reflect.ValueOf(&c).Elem(), number)
		if more {
			all = append(all, c)
		}
	}
	return all
}

// alter makes the alteration with a number, if there are so many.
func alter(x reflect.Value, number int) bool {
	at := -1
	next := func() bool { at++; return at == number }
	visit(x, "", func(name string, v reflect.Value) {
		if at >= number || name == "Line" || name == "Col" {
			return
		}
		switch v.Kind() {
		case reflect.Int:
			if next() {
				v.SetInt(v.Int() + 1)
			}
		case reflect.Bool:
			if next() {
				v.SetBool(!v.Bool())
			}
		case reflect.String:
			if next() {
				v.SetString(v.String() + "x")
			}
		case reflect.Slice:
			alterList(v, next)
		}
	})
	return at == number
}

func alterList(v reflect.Value, next func() bool) {
	if next() {
		v.Set(reflect.Append(v, reflect.Zero(v.Type().Elem())))
		return
	}
	if v.Len() > 0 && next() {
		v.Set(v.Slice(0, v.Len()-1))
		return
	}
	for i := range v.Len() {
		if i > 0 && !reflect.DeepEqual(v.Index(0).Interface(), v.Index(i).Interface()) && next() {
			a, b := v.Index(0).Interface(), v.Index(i).Interface()
			v.Index(0).Set(reflect.ValueOf(b))
			v.Index(i).Set(reflect.ValueOf(a))
			return
		}
	}
}

// places returns the kinds of a tree's parts with their positions, each ahead of those within it.
func places(x any) string {
	var l []string
	visit(reflect.ValueOf(x), "", func(name string, v reflect.Value) {
		if v.Kind() == reflect.Struct && v.FieldByName("Line").IsValid() {
			l = append(l, fmt.Sprintf("%s@%d:%d", v.Type().Name(), v.FieldByName("Line").Int(), v.FieldByName("Col").Int()))
		}
	})
	return strings.Join(l, " ")
}

// nameOf returns what a fault calls the first token of a string.
func nameOf(t *testing.T, s string) string {
	t.Helper()
	l, f := lex.Lex(s)
	if f.Code != api.OK || len(l) == 0 {
		t.Fatalf("%q: %v", s, f)
	}
	if l[0].Kind == api.TokText {
		return "'"
	}
	called, _ := lex.Text(l[:1])
	return called
}

// times returns a string n times, with another one between.
func times(n int, s, between string) string {
	return strings.Join(slices.Repeat([]string{s}, n), between)
}

// counted returns n names, with a string between.
func counted(n int, between string) string {
	var l []string
	for i := range n {
		l = append(l, fmt.Sprintf("n%d", i))
	}
	return strings.Join(l, between)
}
