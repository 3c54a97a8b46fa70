package unit_test

import (
	"reflect"
	"testing"

	"justiciar/api"
	"justiciar/unit"
)

func expectSame[T any](t *testing.T, k kind[T], l []sample[T]) {
	t.Helper()
	n := -7
	for _, x := range l {
		a := k.tree(t, x.text)
		b := placed(a, func() int { n++; return n * n * n })
		if !k.same(a, b) || !k.same(b, a) || !k.same(a, a) || !k.same(a, x.tree) || !k.same(a, emptied(a)) || !k.same(emptied(b), a) {
			t.Error("not the same:", x.text)
		}
		for _, y := range l {
			if got, want := k.same(x.tree, y.tree), reflect.DeepEqual(bare(x.tree), bare(y.tree)); got != want {
				t.Errorf("%s and %s: %v", x.text, y.text, got)
			}
		}
	}
}

// units returns the units of the samples.
func units() []api.Unit {
	var l []api.Unit
	for _, x := range programSamples() {
		l = append(l, x.tree.Object.Unit...)
	}
	return l
}

// P5.4: positions do not matter, nor does it what kind an empty list is.
func TestSame(t *testing.T) {
	expectSame(t, blocks(), blockSamples())
	expectSame(t, defs(), defSamples())
	n := 7
	for _, u := range units() {
		other := placed(u, func() int { n++; return n })
		if !unit.SameUnit(u, other) || !unit.SameUnit(emptied(other), u) {
			t.Error("not the same:", short(u))
		}
		for _, v := range units() {
			if got, want := unit.SameUnit(u, v), reflect.DeepEqual(bare(u), bare(v)); got != want {
				t.Errorf("%s and %s: %v", short(u), short(v), got)
			}
		}
	}
}

// expectOthers expects that trees are not the same as with one alteration, wherever that is.
func expectOthers[T any](t *testing.T, same func(a, b T) bool, least int, l ...T) {
	t.Helper()
	many := 0
	for _, a := range l {
		for _, b := range altered(a) {
			if same(a, b) || same(b, a) {
				t.Errorf("the same: %s and %s", short(a), short(b))
			}
			many++
		}
	}
	if many < least {
		t.Error("too few were compared:", many)
	}
}

// P5.4: each other field matters, wherever it stands, and also in what is not valid.
func TestNotSame(t *testing.T) {
	for _, x := range blockSamples() {
		expectOthers(t, unit.SameBlock, 3, x.tree)
	}
	for _, x := range defSamples() {
		expectOthers(t, unit.SameDef, 15, x.tree)
	}
	expectOthers(t, unit.SameUnit, 500, units()...)
	s := api.Stmt{Op: 30, Text: "x", Path: path("a.b"), Target: make([]api.Expr, 2), Exprs: make([]api.Expr, 1), Bodies: make([][]api.Stmt, 2), Block: make([]api.Block, 1), Query: make([]api.Query, 1), Change: make([]api.Change, 1)}
	d := api.Decl{Op: 7, Type: api.Type{Base: 9}, Init: make([]api.Expr, 2), Query: make([]api.Query, 2)}
	b := api.Block{Decls: []api.Decl{d, {}}, Body: row(s, api.Stmt{}), When: []api.Handler{{Names: path("a.b"), Body: row(s)}, {}}}
	u := api.Unit{Decls: []api.Decl{d}, Subs: []api.Sub{{Params: make([]api.Param, 2), Block: b}, {}}, On: []api.Trigger{{Events: []api.Event{{Cols: path("a.b")}, {}}, On: path("a.b"), When: make([]api.Expr, 1)}, {}}}
	o := api.Object{Table: []api.Table{{Cols: []api.Column{{Default: make([]api.Expr, 1)}, {}}, Cons: []api.Constraint{{Cols: path("a.b"), Table: path("a.b"), Expr: make([]api.Expr, 1)}, {}}}, {}}, Index: []api.Index{{On: path("a.b"), Cols: path("a.b")}, {}}, Serial: make([]api.Serial, 2), View: make([]api.Query, 2), Unit: []api.Unit{u, {}}}
	expectOthers(t, unit.SameBlock, 100, b, api.Block{})
	expectOthers(t, unit.SameUnit, 200, u, api.Unit{})
	expectOthers(t, unit.SameDef, 300, api.Def{Object: o, Path: path("a.b")}, api.Def{})
}
