// Package aggregate says which expressions are aggregates, and which queries are grouped: layer 7 says when.
package aggregate

import (
	"slices"

	"justiciar/api"
	"justiciar/value"
)

// Is reports whether an expression is an aggregate.
func Is(e *api.Expr) bool {
	return e.Op == api.EStar || e.Op == api.ECall && len(e.Path) == 1 && value.IsAggregate(e.Path[0])
}

// Groups reports whether rows of a query's result are groups of rows.
func Groups(q *api.Query) bool {
	return len(q.Group) > 0 || len(q.Having) > 0 ||
		slices.ContainsFunc(q.List, func(x api.Item) bool { return has(&x.Expr) }) ||
		slices.ContainsFunc(q.Order, func(o api.Order) bool { return has(&o.Expr) })
}

// has reports whether there is an aggregate in an expression, but not within a query in it.
func has(e *api.Expr) bool {
	return Is(e) || slices.ContainsFunc(e.Kids, func(kid api.Expr) bool { return has(&kid) })
}
