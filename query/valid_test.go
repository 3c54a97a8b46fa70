package query_test

import (
	"fmt"
	"slices"
	"strings"
	"testing"

	"justiciar/api"
)

const longName = "mmmmmmmmmmmmmmmmmmmmmmmmmmmmmmm"

// badNames returns strings that are no names; the first one is empty.
func badNames() []string {
	return []string{"", "A", "1", "_a", "a b", "a.b", "a-", "select", "update", "count", "sql", "new", "\xe4", longName}
}

// badExprs returns expressions that are not valid.
func badExprs() []api.Expr {
	return []api.Expr{{}, {Op: -1}, {Op: 16}, {Op: api.ECol, A: 1}, {Op: api.EBind, A: 1}, {Op: api.EName}, {Op: api.EName, Path: path("a.b.c.d")}, {Op: api.EName, Path: path("a"), Not: true}, {Op: api.EName, Path: path("a"), Line: -1}, {Op: api.EConst, Val: api.Value{Kind: api.VInt, N: -1}}, {Op: api.EUnary, Text: "+", Kids: exs("a")}, {Op: api.EBinary, Text: "+", Kids: exs("a")}, {Op: api.EQuery}, {Op: api.EExists, Query: []api.Query{plain()}, Not: true}, {Op: api.EQuery, Query: []api.Query{with(func(q *api.Query) { q.Lock = true })}}, {Op: api.EBinary, Text: "=", Kids: []api.Expr{ex("a"), {}}}}
}

// wrong is trees that are not valid, by what is wrong with them.
type wrong[T any] map[string]T

// spoil adds what becomes of a valid tree.
func (w wrong[T]) spoil(what string, x T, change func(x *T)) {
	c := copied(x)
	change(&c)
	w[what] = c
}

// wrongQueries returns queries that are not valid at the outside either.
func wrongQueries() wrong[api.Query] {
	all := wrong[api.Query]{"nothing": {}}
	spoil := func(what string, change func(q *api.Query)) {
		all.spoil(what, plain(), change)
		all.spoil("rich: "+what, rich(), change)
	}
	spoil("Star and items", func(q *api.Query) { q.Star = true })
	spoil("no Star and no items", func(q *api.Query) { q.List = nil })
	spoil("too many items", func(q *api.Query) { q.List = slices.Repeat(items("a"), api.MaxCols+1) })
	spoil("no sources", func(q *api.Query) { q.From = nil })
	spoil("too many sources", func(q *api.Query) { q.From = slices.Repeat(from("t"), 21) })
	spoil("two AsOf", func(q *api.Query) { q.From[0].AsOf = exs("1", "1") })
	spoil("two Where", func(q *api.Query) { q.Where = exs("a", "b") })
	spoil("two Having", func(q *api.Query) { q.Having = exs("a", "b") })
	spoil("a long Group", func(q *api.Query) { q.Group = slices.Repeat(exs("a"), 11) })
	spoil("a long Order", func(q *api.Query) { q.Order = slices.Repeat(orders("a"), 11) })
	spoil("a source without a path", func(q *api.Query) { q.From[0].Path = nil })
	spoil("a source with a long path", func(q *api.Query) { q.From[0].Path = path("a.b.c") })
	for _, n := range []int{-1, api.MaxInt + 1, -1 << 63, 1<<63 - 1} {
		spoil(fmt.Sprint("Line ", n), func(q *api.Query) { q.Line = n })
		spoil(fmt.Sprint("Col ", n), func(q *api.Query) { q.Col = n })
		spoil(fmt.Sprint("a source's Line ", n), func(q *api.Query) { q.From[len(q.From)-1].Line = n })
		spoil(fmt.Sprint("a source's Col ", n), func(q *api.Query) { q.From[len(q.From)-1].Col = n })
	}
	for i, s := range badNames() {
		spoil("a source "+s, func(q *api.Query) { q.From[0].Path = []string{s} })
		spoil("a source u."+s, func(q *api.Query) { q.From[0].Path = []string{"u", s} })
		spoil("a source of "+s, func(q *api.Query) { q.From[0].Path = []string{s, "t"} })
		if i > 0 {
			spoil("an item as "+s, func(q *api.Query) { q.List[0].As = s })
			spoil("a source called "+s, func(q *api.Query) { q.From[0].As = s })
		}
	}
	for i, e := range badExprs() {
		spoil(fmt.Sprint("an item ", i), func(q *api.Query) { q.List = append(q.List, api.Item{Expr: e}) })
		spoil(fmt.Sprint("AsOf ", i), func(q *api.Query) { q.From[0].AsOf = []api.Expr{e} })
		spoil(fmt.Sprint("Where ", i), func(q *api.Query) { q.Where = []api.Expr{e} })
		spoil(fmt.Sprint("Group ", i), func(q *api.Query) { q.Group = append(q.Group, e) })
		spoil(fmt.Sprint("Having ", i), func(q *api.Query) { q.Having = []api.Expr{e} })
		spoil(fmt.Sprint("Order ", i), func(q *api.Query) { q.Order = append(q.Order, api.Order{Expr: e}) })
	}
	return all
}

// P4.1, P4.3, P4.4: what is not valid has no string and no paths.
func TestNotValid(t *testing.T) {
	for what, q := range wrongQueries() {
		queries().expectWrong(t, what, q)
	}
}

func wrongChanges() wrong[api.Change] {
	all := wrong[api.Change]{"nothing": {}}
	for _, x := range changeSamples() {
		insert, update, isDelete := x.tree.Op == api.CInsert, x.tree.Op == api.CUpdate, x.tree.Op == api.CDelete
		spoil := func(what string, change func(x *api.Change)) { all.spoil(x.text+": "+what, x.tree, change) }
		spoilIf := func(wanted bool, what string, change func(x *api.Change)) {
			if wanted {
				spoil(what, change)
			}
		}
		for _, n := range []int{-1, api.MaxInt + 1, -1 << 63, 1<<63 - 1} {
			spoil(fmt.Sprint("Line ", n), func(x *api.Change) { x.Line = n })
			spoil(fmt.Sprint("Col ", n), func(x *api.Change) { x.Col = n })
			spoil(fmt.Sprint("Op ", n), func(x *api.Change) { x.Op = api.ChangeOp(n) })
		}
		spoil("Op 0", func(x *api.Change) { x.Op = 0 })
		spoil("Op 4", func(x *api.Change) { x.Op = 4 })
		spoil("no path", func(x *api.Change) { x.Path = nil })
		spoil("a long path", func(x *api.Change) { x.Path = path("a.b.c") })
		for _, s := range badNames() {
			spoil("a table "+s, func(x *api.Change) { x.Path = []string{s} })
			spoil("a table u."+s, func(x *api.Change) { x.Path = []string{"u", s} })
			spoil("a table of "+s, func(x *api.Change) { x.Path = []string{s, "t"} })
			spoilIf(insert, "a column "+s, func(x *api.Change) { x.Cols = []string{"a", s} })
			spoilIf(update, "a column "+s, func(x *api.Change) { x.Cols[len(x.Cols)-1] = s })
		}
		for i, e := range badExprs() {
			spoilIf(len(x.tree.Vals) > 0, fmt.Sprint("Vals ", i), func(x *api.Change) { x.Vals[len(x.Vals)-1] = e })
			spoilIf(!insert, fmt.Sprint("Where ", i), func(x *api.Change) { x.Where = []api.Expr{e} })
		}
		spoilIf(insert, "Where", func(x *api.Change) { x.Where = exs("a") })
		spoilIf(insert, "neither Vals nor Query", func(x *api.Change) { x.Vals, x.Query = nil, nil })
		spoilIf(insert, "both Vals and Query", func(x *api.Change) { x.Vals, x.Query = exs("a"), []api.Query{plain()} })
		spoilIf(insert, "two queries", func(x *api.Change) { x.Vals, x.Query = nil, []api.Query{plain(), plain()} })
		spoilIf(insert, "too many Cols", func(x *api.Change) { x.Cols = slices.Repeat([]string{"a"}, api.MaxCols+1) })
		spoilIf(insert, "too many Vals", func(x *api.Change) { x.Vals, x.Query = slices.Repeat(exs("a"), api.MaxCols+1), nil })
		spoilIf(update, "no Cols and no Vals", func(x *api.Change) { x.Cols, x.Vals = nil, nil })
		spoilIf(update, "no Cols", func(x *api.Change) { x.Cols = nil })
		spoilIf(update, "a column more", func(x *api.Change) { x.Cols = append(x.Cols, "a") })
		spoilIf(update, "a value more", func(x *api.Change) { x.Vals = append(x.Vals, ex("a")) })
		spoilIf(update, "too many of both", func(x *api.Change) {
			x.Cols, x.Vals = slices.Repeat([]string{"a"}, api.MaxCols+1), slices.Repeat(exs("a"), api.MaxCols+1)
		})
		spoilIf(isDelete, "Cols", func(x *api.Change) { x.Cols = path("a") })
		spoilIf(isDelete, "Vals", func(x *api.Change) { x.Vals = exs("a") })
		spoilIf(isDelete, "Cols and Vals", func(x *api.Change) { x.Cols, x.Vals = path("a"), exs("a") })
		spoilIf(!insert, "a query", func(x *api.Change) { x.Query = []api.Query{plain()} })
		spoilIf(!insert, "two Where", func(x *api.Change) { x.Where = exs("a", "a") })
	}
	insert := api.Change{Op: api.CInsert, Path: path("t"), Query: []api.Query{plain()}}
	for what, q := range wrongQueries() {
		all.spoil("a query with "+what, insert, func(x *api.Change) { x.Query[0] = q })
	}
	all.spoil("a query for update", insert, func(x *api.Change) { x.Query[0].Lock = true })
	return all
}

// P4.2, P4.3, P4.4: what is not valid has no string and no paths.
func TestNotValidChange(t *testing.T) {
	for what, x := range wrongChanges() {
		changes().expectWrong(t, what, x)
	}
}

// P4.3
func TestValid(t *testing.T) {
	longest := strings.Repeat("m", api.MaxName)
	l := []api.Query{
		with(func(q *api.Query) { q.Line, q.Col = api.MaxInt, 0 }), with(func(q *api.Query) { q.From[0].Line, q.From[0].Col = 0, api.MaxInt }),
		with(func(q *api.Query) {
			q.Where, q.Group, q.Having, q.Order = []api.Expr{}, []api.Expr{}, []api.Expr{}, []api.Order{}
		}),
		with(func(q *api.Query) {
			q.List[0].As, q.From[0] = longest, api.Source{Path: []string{longest, longest}, As: longest, AsOf: []api.Expr{}}
		}),
	}
	for _, n := range []int{1, 2, 20} {
		for _, lock := range []bool{true, false} {
			l = append(l, api.Query{List: slices.Repeat(items("a"), n), From: slices.Repeat(from("u.t"), n), Group: slices.Repeat(exs("a"), (n+1)/2), Order: slices.Repeat(orders("a"), (n+1)/2), Lock: lock})
		}
	}
	for _, x := range querySamples() {
		l = append(l, x.tree, queries().tree(t, x.text))
	}
	for _, q := range l {
		if !queries().valid(q) {
			t.Error("not valid:", short(q))
		}
	}
}

// P4.3
func TestValidChange(t *testing.T) {
	longest := strings.Repeat("m", api.MaxName)
	cols, vals := slices.Repeat([]string{longest}, api.MaxCols), slices.Repeat(exs("a"), api.MaxCols)
	l := []api.Change{
		{Op: api.CDelete, Path: []string{longest, longest}, Line: api.MaxInt, Cols: []string{}, Vals: []api.Expr{}, Query: []api.Query{}},
		{Op: api.CDelete, Path: path("t"), Where: exs("a"), Col: api.MaxInt},
		{Op: api.CInsert, Path: path("t"), Cols: cols, Vals: vals}, {Op: api.CInsert, Path: path("t"), Vals: vals, Where: []api.Expr{}}, {Op: api.CInsert, Path: path("t"), Cols: cols, Vals: vals[:1]}, {Op: api.CInsert, Path: path("t"), Cols: cols[:1], Vals: vals},
		{Op: api.CInsert, Path: path("t"), Cols: cols, Query: []api.Query{plain()}, Vals: []api.Expr{}}, {Op: api.CUpdate, Path: path("t"), Cols: cols, Vals: vals, Where: exs("a")},
	}
	for _, x := range changeSamples() {
		l = append(l, x.tree, changes().tree(t, x.text))
	}
	for _, x := range l {
		if !changes().valid(x) {
			t.Error("not valid:", short(x))
		}
	}
}
