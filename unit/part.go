package unit

import (
	"justiciar/api"
	"justiciar/grammar"
)

// part is one of those that are counted: a statement, a declaration, a handler or a sub, or a whole expression, query or change (node).
type part struct {
	stmt    *api.Stmt
	decl    *api.Decl
	handler *api.Handler
	sub     *api.Sub
	node    grammar.Node
	level   int // of a statement
}

// looker is a closure that looks at parts, one by one, and reports whether it wants more. Its methods show it all parts of something, each ahead of those within it, and report the same.
type looker func(p part) bool

func (look looker) expr(e *api.Expr) bool { return look(part{node: grammar.Node{Expr: e}}) }

func (look looker) query(q *api.Query) bool { return look(part{node: grammar.Node{Query: q}}) }

func (look looker) change(x *api.Change) bool { return look(part{node: grammar.Node{Change: x}}) }

func (look looker) decl(d *api.Decl) bool {
	return look(part{decl: d}) && grammar.Each(d.Init, look.expr) && grammar.Each(d.Query, look.query)
}

// block shows the parts of a block whose statements are at a level.
func (look looker) block(b *api.Block, level int) bool {
	handler := func(h *api.Handler) bool { return look(part{handler: h}) && look.stmts(h.Body, level+1) }
	return grammar.Each(b.Decls, look.decl) && look.stmts(b.Body, level) && grammar.Each(b.When, handler)
}

func (look looker) stmts(l []api.Stmt, level int) bool {
	return grammar.Each(l, func(s *api.Stmt) bool { return look.stmt(s, level) })
}

func (look looker) stmt(s *api.Stmt, level int) bool {
	body := func(l *[]api.Stmt) bool { return look.stmts(*l, level+1) }
	block := func(b *api.Block) bool { return look.block(b, level+1) }
	return look(part{stmt: s, level: level}) &&
		grammar.Each(s.Target, look.expr) && grammar.Each(s.Exprs, look.expr) && grammar.Each(s.Bodies, body) &&
		grammar.Each(s.Block, block) && grammar.Each(s.Query, look.query) && grammar.Each(s.Change, look.change)
}

func (look looker) sub(s *api.Sub) bool { return look(part{sub: s}) && look.block(&s.Block, 1) }

func (look looker) trigger(g *api.Trigger) bool { return grammar.Each(g.When, look.expr) }

func (look looker) unit(u *api.Unit) bool {
	return grammar.Each(u.Decls, look.decl) && grammar.Each(u.On, look.trigger) && grammar.Each(u.Subs, look.sub)
}

func (look looker) table(t *api.Table) bool {
	column := func(c *api.Column) bool { return grammar.Each(c.Default, look.expr) }
	constraint := func(c *api.Constraint) bool { return grammar.Each(c.Expr, look.expr) }
	return grammar.Each(t.Cols, column) && grammar.Each(t.Cons, constraint)
}

func (look looker) object(o *api.Object) bool {
	return grammar.Each(o.Table, look.table) && grammar.Each(o.View, look.query) && grammar.Each(o.Unit, look.unit)
}
