package unit

import (
	"slices"

	"justiciar/api"
	"justiciar/grammar"
)

// SameBlock reports whether two blocks are the same but for positions.
func SameBlock(a, b api.Block) bool {
	return slices.EqualFunc(a.Decls, b.Decls, sameDecl) && sameStmts(a.Body, b.Body) && slices.EqualFunc(a.When, b.When, sameHandler)
}

// SameDef reports whether two definitions are the same but for positions.
func SameDef(a, b api.Def) bool {
	return a.Op == b.Op && a.Replace == b.Replace && sameObject(a.Object, b.Object) && slices.Equal(a.Path, b.Path) && a.Right == b.Right && a.To == b.To
}

// SameUnit reports whether two units are the same but for positions.
func SameUnit(a, b api.Unit) bool {
	return a.Invoker == b.Invoker && slices.EqualFunc(a.Decls, b.Decls, sameDecl) &&
		slices.EqualFunc(a.Subs, b.Subs, sameSub) && slices.EqualFunc(a.On, b.On, sameTrigger)
}

func sameExprs(a, b []api.Expr) bool { return slices.EqualFunc(a, b, grammar.SameExpr) }

func sameQueries(a, b []api.Query) bool { return slices.EqualFunc(a, b, grammar.SameQuery) }

func sameDecl(a, b api.Decl) bool {
	return a.Op == b.Op && a.Name == b.Name && a.Type == b.Type && sameExprs(a.Init, b.Init) && sameQueries(a.Query, b.Query)
}

func sameHandler(a, b api.Handler) bool {
	return slices.Equal(a.Names, b.Names) && sameStmts(a.Body, b.Body)
}

func sameStmts(a, b []api.Stmt) bool { return slices.EqualFunc(a, b, sameStmt) }

func sameStmt(a, b api.Stmt) bool {
	return a.Op == b.Op && a.Text == b.Text && slices.Equal(a.Path, b.Path) && a.Back == b.Back && a.Bulk == b.Bulk &&
		sameExprs(a.Target, b.Target) && sameExprs(a.Exprs, b.Exprs) && slices.EqualFunc(a.Bodies, b.Bodies, sameStmts) &&
		slices.EqualFunc(a.Block, b.Block, SameBlock) && sameQueries(a.Query, b.Query) && slices.EqualFunc(a.Change, b.Change, grammar.SameChange)
}

func sameSub(a, b api.Sub) bool {
	return a.Name == b.Name && a.Fun == b.Fun && slices.EqualFunc(a.Params, b.Params, sameParam) &&
		a.Ret == b.Ret && a.Auto == b.Auto && a.Private == b.Private && SameBlock(a.Block, b.Block)
}

func sameParam(a, b api.Param) bool {
	return a.Name == b.Name && a.Mode == b.Mode && a.Type == b.Type
}

func sameTrigger(a, b api.Trigger) bool {
	return a.Before == b.Before && a.Each == b.Each && slices.EqualFunc(a.Events, b.Events, sameEvent) && slices.Equal(a.On, b.On) && sameExprs(a.When, b.When)
}

func sameEvent(a, b api.Event) bool { return a.Op == b.Op && slices.Equal(a.Cols, b.Cols) }

func sameObject(a, b api.Object) bool {
	return a.Owner == b.Owner && a.Name == b.Name && a.Kind == b.Kind && a.Stamp == b.Stamp && a.Valid == b.Valid &&
		slices.EqualFunc(a.Table, b.Table, sameTable) && slices.EqualFunc(a.Index, b.Index, sameIndex) && slices.Equal(a.Serial, b.Serial) &&
		sameQueries(a.View, b.View) && slices.EqualFunc(a.Unit, b.Unit, SameUnit)
}

func sameTable(a, b api.Table) bool {
	return slices.EqualFunc(a.Cols, b.Cols, sameColumn) && slices.EqualFunc(a.Cons, b.Cons, sameConstraint)
}

func sameColumn(a, b api.Column) bool {
	return a.Name == b.Name && a.Type == b.Type && a.NotNull == b.NotNull && sameExprs(a.Default, b.Default)
}

func sameConstraint(a, b api.Constraint) bool {
	return a.Name == b.Name && a.Op == b.Op && slices.Equal(a.Cols, b.Cols) && slices.Equal(a.Table, b.Table) && sameExprs(a.Expr, b.Expr) && a.Late == b.Late
}

func sameIndex(a, b api.Index) bool {
	return slices.Equal(a.On, b.On) && slices.Equal(a.Cols, b.Cols)
}
