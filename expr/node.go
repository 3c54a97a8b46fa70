package expr

import (
	"iter"

	"justiciar/api"
)

// node is an expression, a query or a source of an expression: just one of them is not nil.
type node struct {
	expr   *api.Expr
	query  *api.Query
	source *api.Source
	level  int // that of the whole expression is 1
}

// nodes ranges over an expression and all nodes within it, in the order in which they stand, but each ahead of those within it.
func nodes(e *api.Expr) iter.Seq[node] {
	return func(yield func(node) bool) { node{expr: e, level: 1}.visit(yield) }
}

// visit yields a node and all nodes within it, and reports whether more are wanted.
func (n node) visit(yield func(node) bool) bool {
	if !yield(n) {
		return false
	}
	in := n.level + 1
	expr := func(e *api.Expr) bool { return node{expr: e, level: in}.visit(yield) }
	query := func(q *api.Query) bool { return node{query: q, level: in}.visit(yield) }
	source := func(s *api.Source) bool { return node{source: s, level: in}.visit(yield) }
	item := func(x *api.Item) bool { return expr(&x.Expr) }
	order := func(o *api.Order) bool { return expr(&o.Expr) }
	switch {
	case n.expr != nil:
		return each(n.expr.Kids, expr) && each(n.expr.Query, query)
	case n.source != nil:
		return each(n.source.AsOf, expr)
	}
	q := n.query
	return each(q.List, item) && each(q.From, source) && each(q.Where, expr) &&
		each(q.Group, expr) && each(q.Having, expr) && each(q.Order, order)
}

// each reports whether all elements of a list are as a closure wants; it goes no further than to the first that is not.
func each[T any](l []T, wanted func(x *T) bool) bool {
	for i := range l {
		if !wanted(&l[i]) {
			return false
		}
	}
	return true
}
