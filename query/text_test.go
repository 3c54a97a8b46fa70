package query_test

import (
	"slices"
	"strings"
	"testing"

	"justiciar/api"
)

func expectTexts[T any](t *testing.T, k kind[T], l []sample[T]) {
	t.Helper()
	for _, x := range l {
		if s := k.string(t, x.tree); s != x.want {
			t.Errorf("%s, want %s", s, x.want)
		}
		if s := k.string(t, k.tree(t, x.text)); s != x.want {
			t.Errorf("%s, want %s", s, x.want)
		}
	}
}

// P4.1
func TestText(t *testing.T) { expectTexts(t, queries(), querySamples()) }

// P4.2
func TestTextChange(t *testing.T) { expectTexts(t, changes(), changeSamples()) }

// P4.1, P4.2: expressions stand without brackets, but for some that are a source's time.
func TestTextOfExprs(t *testing.T) {
	for want, time := range map[string]string{
		"a": "a", "7": "7", "f ( - a )": "f ( - a )", "case when - a then b end": "case when - a then b end", "( select a from t )": "( select a from t )", "exists ( select a from t )": "exists ( select a from t )",
		"not a": "( not a )", "- a": "( - a )", "a or b": "( a or b )", "a + b": "( a + b )", "a is null": "( a is null )", "a in ( b )": "( a in ( b ) )", "a between b and c": "( a between b and c )",
	} {
		e := ex(want)
		l := []api.Expr{e, e}
		q := api.Query{
			List: []api.Item{{Expr: e}, {Expr: e, As: "x"}}, From: []api.Source{{Path: path("t"), AsOf: l[:1], As: "x"}, {Path: path("t"), AsOf: l[:1]}},
			Where: l[:1], Group: l, Having: l[:1], Order: []api.Order{{Expr: e}, {Expr: e, Desc: true}},
		}
		fill := strings.NewReplacer("#", want, "@", time)
		text := fill.Replace("select # , # as x from t as of @ x , t as of @ where # group by # , # having # order by # , # desc")
		expectTexts(t, queries(), []sample[api.Query]{{text, q, text, ""}})
		for text, x := range map[string]api.Change{
			"insert into t values ( # , # )":     {Op: api.CInsert, Path: path("t"), Vals: l},
			"insert into t " + text:              {Op: api.CInsert, Path: path("t"), Query: []api.Query{q}},
			"update t set a = # , b = # where #": {Op: api.CUpdate, Path: path("t"), Cols: path("a.b"), Vals: l, Where: l[:1]},
			"delete from t where #":              {Op: api.CDelete, Path: path("t"), Where: l[:1]},
		} {
			text = fill.Replace(text)
			expectTexts(t, changes(), []sample[api.Change]{{text, x, text, ""}})
		}
	}
}

// called returns the expression f(a, a, ..).
func called(n int) string { return "f(" + many(n, "a") + ")" }

// expectLongest expects that a string's tree has a string with so many tokens and bytes as may be, and each other one none.
func expectLongest[T any](t *testing.T, k kind[T], longest string, tokens, bytes int, more ...T) {
	t.Helper()
	x := k.tree(t, longest)
	s := k.string(t, x)
	if tokens > 0 && len(strings.Fields(s)) != tokens || bytes > 0 && len(s) != bytes || !k.same(k.tree(t, s), x) {
		t.Errorf("%d tokens, %d bytes", len(strings.Fields(s)), len(s))
	}
	for i, x := range more {
		if s, code := k.text(x); s != "" || code != api.ErrLimit || !k.valid(x) {
			t.Errorf("longer string %d: %d bytes, error %d", i, len(s), code)
		}
	}
}

// edited returns the tree of a string, with a change.
func (k kind[T]) edited(t *testing.T, s string, edit func(x *T)) T {
	t.Helper()
	x := k.tree(t, s)
	edit(&x)
	return x
}

// P4.1, P4.2: as many tokens as a string may have.
func TestTextOfManyTokens(t *testing.T) {
	full := "select distinct " + called(1996) + " from t for update"
	expectLongest(t, queries(), full, api.MaxTokens, 0,
		queries().edited(t, full, func(q *api.Query) { q.From[0].As = "x" }),
		queries().edited(t, full, func(q *api.Query) { q.From[0].Path = path("u.t") }),
		queries().edited(t, full, func(q *api.Query) { q.List[0].As = "x" }),
		queries().edited(t, full, func(q *api.Query) { q.Lock, q.Where = false, exs("a.b") }))
	deleted := "delete from t where " + called(1997)
	expectLongest(t, changes(), deleted, api.MaxTokens, 0,
		changes().edited(t, deleted, func(x *api.Change) { x.Where[0].Path = path("a.f") }),
		changes().edited(t, deleted, func(x *api.Change) { x.Path = path("u.t") }))
	inserted := "insert into t values (" + called(1996) + ")"
	expectLongest(t, changes(), inserted, api.MaxTokens, 0,
		changes().edited(t, inserted, func(x *api.Change) { x.Vals = append(x.Vals, ex("a")) }),
		changes().edited(t, inserted, func(x *api.Change) { x.Cols = path("a") }))
	updated := "update t set a = " + called(1994) + ", b = c"
	expectLongest(t, changes(), updated, api.MaxTokens-1, 0,
		changes().edited(t, updated, func(x *api.Change) { x.Path = path("u.t") }),
		changes().edited(t, updated, func(x *api.Change) { x.Where = exs("d") }))
}

// P4.1, P4.2: as many bytes as a string may have.
func TestTextOfManyBytes(t *testing.T) {
	strung := func(last int) string {
		all := append(slices.Repeat([]string{strings.Repeat("x", api.MaxText)}, 97), strings.Repeat("y", last))
		return "f('" + strings.Join(all, "','") + "')"
	}
	full := "select " + strung(93) + " from t"
	expectLongest(t, queries(), full, 0, api.MaxSource,
		queries().tree(t, "select "+strung(94)+" from t"),
		queries().edited(t, full, func(q *api.Query) { q.From[0].As = "x" }),
		queries().edited(t, full, func(q *api.Query) { q.Lock = true }))
	deleted := "delete from t where " + strung(87)
	expectLongest(t, changes(), deleted, 0, api.MaxSource,
		changes().tree(t, "delete from t where "+strung(88)),
		changes().edited(t, deleted, func(x *api.Change) { x.Path = path("tt") }))
}
