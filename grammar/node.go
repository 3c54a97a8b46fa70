package grammar

import (
	"iter"

	"justiciar/api"
	"justiciar/list"
)

// Node is an expression, a query, a source or a change: just one of them is not nil.
type Node struct {
	Expr   *api.Expr
	Query  *api.Query
	Source *api.Source
	Change *api.Change
	level  int // that of the whole is 1
}

// Nodes ranges over a whole node and all nodes within it, in the order in which they stand, but each ahead of those within it.
func Nodes(whole Node) iter.Seq[Node] {
	whole.level = 1
	return func(yield func(Node) bool) { whole.visit(yield) }
}

// visit yields a node and all nodes within it, and reports whether more are wanted.
func (n Node) visit(yield func(Node) bool) bool {
	if !yield(n) {
		return false
	}
	in := n.level + 1
	expr := func(e *api.Expr) bool { return Node{Expr: e, level: in}.visit(yield) }
	query := func(q *api.Query) bool { return Node{Query: q, level: in}.visit(yield) }
	source := func(s *api.Source) bool { return Node{Source: s, level: in}.visit(yield) }
	item := func(x *api.Item) bool { return expr(&x.Expr) }
	order := func(o *api.Order) bool { return expr(&o.Expr) }
	switch {
	case n.Expr != nil:
		return list.Each(n.Expr.Kids, expr) && list.Each(n.Expr.Query, query)
	case n.Query != nil:
		q := n.Query
		return list.Each(q.List, item) && list.Each(q.From, source) && list.Each(q.Where, expr) &&
			list.Each(q.Group, expr) && list.Each(q.Having, expr) && list.Each(q.Order, order)
	case n.Source != nil:
		return list.Each(n.Source.AsOf, expr)
	case n.Change != nil:
		return list.Each(n.Change.Vals, expr) && list.Each(n.Change.Query, query) && list.Each(n.Change.Where, expr)
	}
	return true
}
