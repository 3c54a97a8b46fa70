package query_test

import (
	"reflect"
	"testing"

	"justiciar/api"
)

func expectSame[T any](t *testing.T, k kind[T], l []sample[T]) {
	t.Helper()
	n := -7
	for _, x := range l {
		a := k.tree(t, x.text)
		b := placed(a, func() int { n++; return n * n * n })
		if !k.same(a, b) || !k.same(b, a) || !k.same(a, a) || !k.same(a, x.tree) {
			t.Error("not the same:", x.text)
		}
		for _, y := range l {
			if got, want := k.same(x.tree, y.tree), reflect.DeepEqual(bare(x.tree), bare(y.tree)); got != want {
				t.Errorf("%s and %s: %v", x.text, y.text, got)
			}
		}
	}
}

// P4.3: positions do not matter, nor does it what kind an empty list is.
func TestSame(t *testing.T) {
	expectSame(t, queries(), querySamples())
	empty := api.Query{List: []api.Item{}, From: []api.Source{}, Where: []api.Expr{}, Group: []api.Expr{}, Having: []api.Expr{}, Order: []api.Order{}}
	if !queries().same(empty, api.Query{}) || !queries().same(api.Query{}, empty) {
		t.Error("empty lists are not the same as nil ones")
	}
	source := api.Query{From: []api.Source{{Path: []string{}, AsOf: []api.Expr{}}}}
	if !queries().same(source, api.Query{From: []api.Source{{}}}) {
		t.Error("empty lists of a source are not the same as nil ones")
	}
}

// P4.3
func TestSameChange(t *testing.T) {
	expectSame(t, changes(), changeSamples())
	empty := api.Change{Path: []string{}, Cols: []string{}, Vals: []api.Expr{}, Query: []api.Query{}, Where: []api.Expr{}}
	if !changes().same(empty, api.Change{}) || !changes().same(api.Change{}, empty) {
		t.Error("empty lists are not the same as nil ones")
	}
}

// expectOthers expects that trees are not the same as with one alteration, wherever that is.
func expectOthers[T any](t *testing.T, k kind[T], least int, l ...T) {
	t.Helper()
	many := 0
	for _, a := range l {
		for _, b := range altered(a) {
			if k.same(a, b) || k.same(b, a) {
				t.Errorf("the same: %s and %s", short(a), short(b))
			}
			many++
		}
	}
	if many < least {
		t.Error("too few were compared:", many)
	}
}

// P4.3: each other field matters, wherever it stands, and also in what is not valid.
func TestNotSame(t *testing.T) {
	q := api.Query{Star: true, List: make([]api.Item, 2), From: make([]api.Source, 2), Where: make([]api.Expr, 2), Group: make([]api.Expr, 1), Having: make([]api.Expr, 2), Order: make([]api.Order, 1), Lock: true}
	expectOthers(t, queries(), 100, api.Query{}, q)
	expectOthers(t, changes(), 100, api.Change{}, api.Change{Op: 7, Path: path("a.b.c"), Cols: path("a.b"), Vals: make([]api.Expr, 1), Query: []api.Query{q, {}}, Where: make([]api.Expr, 2)})
	for _, x := range querySamples() {
		expectOthers(t, queries(), 15, x.tree)
	}
	for _, x := range changeSamples() {
		expectOthers(t, changes(), 8, x.tree)
	}
}
