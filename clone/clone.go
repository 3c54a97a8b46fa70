// Package clone copies what catalogs have. A copy shares no memory with what it is a copy of.
package clone

import (
	"slices"

	"justiciar/api"
)

// list returns a copy of a list, each element of which a closure copies.
func list[T any](l []T, copyOf func(x T) T) []T {
	c := slices.Clone(l)
	for i := range c {
		c[i] = copyOf(c[i])
	}
	return c
}

func exprs(l []api.Expr) []api.Expr { return list(l, Expr) }

// Expr returns a copy of an expression.
func Expr(e api.Expr) api.Expr {
	e.Path, e.Kids, e.Query = slices.Clone(e.Path), exprs(e.Kids), queries(e.Query)
	return e
}

func queries(l []api.Query) []api.Query { return list(l, Query) }

// Query returns a copy of a query.
func Query(q api.Query) api.Query {
	q.List, q.From, q.Order = list(q.List, item), list(q.From, source), list(q.Order, order)
	q.Where, q.Group, q.Having = exprs(q.Where), exprs(q.Group), exprs(q.Having)
	return q
}

func item(x api.Item) api.Item {
	x.Expr = Expr(x.Expr)
	return x
}

func source(s api.Source) api.Source {
	s.Path, s.AsOf = slices.Clone(s.Path), exprs(s.AsOf)
	return s
}

func order(o api.Order) api.Order {
	o.Expr = Expr(o.Expr)
	return o
}

// Change returns a copy of a change.
func Change(x api.Change) api.Change {
	x.Path, x.Cols = slices.Clone(x.Path), slices.Clone(x.Cols)
	x.Vals, x.Query, x.Where = exprs(x.Vals), queries(x.Query), exprs(x.Where)
	return x
}

func stmts(l []api.Stmt) []api.Stmt { return list(l, stmt) }

func stmt(s api.Stmt) api.Stmt {
	s.Path, s.Target, s.Exprs = slices.Clone(s.Path), exprs(s.Target), exprs(s.Exprs)
	s.Bodies, s.Block = list(s.Bodies, stmts), list(s.Block, block)
	s.Query, s.Change = queries(s.Query), list(s.Change, Change)
	return s
}

func decl(d api.Decl) api.Decl {
	d.Init, d.Query = exprs(d.Init), queries(d.Query)
	return d
}

func handler(h api.Handler) api.Handler {
	h.Names, h.Body = slices.Clone(h.Names), stmts(h.Body)
	return h
}

func block(b api.Block) api.Block {
	return api.Block{Decls: list(b.Decls, decl), Body: stmts(b.Body), When: list(b.When, handler)}
}

func sub(s api.Sub) api.Sub {
	s.Params, s.Block = slices.Clone(s.Params), block(s.Block)
	return s
}

func event(v api.Event) api.Event {
	v.Cols = slices.Clone(v.Cols)
	return v
}

func trigger(g api.Trigger) api.Trigger {
	g.Events, g.On, g.When = list(g.Events, event), slices.Clone(g.On), exprs(g.When)
	return g
}

func unit(u api.Unit) api.Unit {
	u.Decls, u.Subs, u.On = list(u.Decls, decl), list(u.Subs, sub), list(u.On, trigger)
	return u
}

func column(c api.Column) api.Column {
	c.Default = exprs(c.Default)
	return c
}

func constraint(c api.Constraint) api.Constraint {
	c.Cols, c.Table, c.Expr = slices.Clone(c.Cols), slices.Clone(c.Table), exprs(c.Expr)
	return c
}

func table(t api.Table) api.Table {
	return api.Table{Cols: list(t.Cols, column), Cons: list(t.Cons, constraint)}
}

func index(x api.Index) api.Index {
	return api.Index{On: slices.Clone(x.On), Cols: slices.Clone(x.Cols)}
}

// Object returns a copy of an object.
func Object(o api.Object) api.Object {
	o.Table, o.Index, o.Serial = list(o.Table, table), list(o.Index, index), slices.Clone(o.Serial)
	o.View, o.Unit = queries(o.View), list(o.Unit, unit)
	return o
}

// Catalog returns a copy of a catalog.
func Catalog(c api.Catalog) api.Catalog {
	c.Users, c.Objects, c.Grants = slices.Clone(c.Users), list(c.Objects, Object), slices.Clone(c.Grants)
	return c
}
