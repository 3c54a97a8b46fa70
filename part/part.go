// Package part goes through what programs, definitions and objects consist of, part by part.
package part

import (
	"justiciar/api"
	"justiciar/grammar"
	"justiciar/list"
)

// Part is a statement, a declaration, a handler or a sub, or a whole expression, query or change (Node).
type Part struct {
	Stmt    *api.Stmt
	Decl    *api.Decl
	Handler *api.Handler
	Sub     *api.Sub
	Node    grammar.Node
	Level   int // of a statement
}

// Looker is a closure that looks at parts, one by one, and reports whether it wants more. Its methods show it all parts of something, each ahead of those within it, and report the same.
type Looker func(p Part) bool

func (look Looker) expr(e *api.Expr) bool { return look(Part{Node: grammar.Node{Expr: e}}) }

// Query shows a query.
func (look Looker) Query(q *api.Query) bool { return look(Part{Node: grammar.Node{Query: q}}) }

// Change shows a change.
func (look Looker) Change(x *api.Change) bool { return look(Part{Node: grammar.Node{Change: x}}) }

func (look Looker) decl(d *api.Decl) bool {
	return look(Part{Decl: d}) && list.Each(d.Init, look.expr) && list.Each(d.Query, look.Query)
}

// Block shows the parts of a block whose statements are at a level.
func (look Looker) Block(b *api.Block, level int) bool {
	handler := func(h *api.Handler) bool { return look(Part{Handler: h}) && look.stmts(h.Body, level+1) }
	return list.Each(b.Decls, look.decl) && look.stmts(b.Body, level) && list.Each(b.When, handler)
}

func (look Looker) stmts(l []api.Stmt, level int) bool {
	return list.Each(l, func(s *api.Stmt) bool { return look.stmt(s, level) })
}

func (look Looker) stmt(s *api.Stmt, level int) bool {
	body := func(l *[]api.Stmt) bool { return look.stmts(*l, level+1) }
	block := func(b *api.Block) bool { return look.Block(b, level+1) }
	return look(Part{Stmt: s, Level: level}) &&
		list.Each(s.Target, look.expr) && list.Each(s.Exprs, look.expr) && list.Each(s.Bodies, body) &&
		list.Each(s.Block, block) && list.Each(s.Query, look.Query) && list.Each(s.Change, look.Change)
}

func (look Looker) sub(s *api.Sub) bool { return look(Part{Sub: s}) && look.Block(&s.Block, 1) }

func (look Looker) trigger(g *api.Trigger) bool { return list.Each(g.When, look.expr) }

// Unit shows the parts of a unit.
func (look Looker) Unit(u *api.Unit) bool {
	return list.Each(u.Decls, look.decl) && list.Each(u.On, look.trigger) && list.Each(u.Subs, look.sub)
}

func (look Looker) table(t *api.Table) bool {
	column := func(c *api.Column) bool { return list.Each(c.Default, look.expr) }
	constraint := func(c *api.Constraint) bool { return list.Each(c.Expr, look.expr) }
	return list.Each(t.Cols, column) && list.Each(t.Cons, constraint)
}

// Object shows the parts of an object.
func (look Looker) Object(o *api.Object) bool {
	return list.Each(o.Table, look.table) && list.Each(o.View, look.Query) && list.Each(o.Unit, look.Unit)
}
