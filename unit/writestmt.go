package unit

import (
	"justiciar/api"
	"justiciar/grammar"
)

func (w *writer) stmts(l []api.Stmt) {
	for _, s := range l {
		w.stmt(s)
	}
}

func (w *writer) stmt(s api.Stmt) {
	switch s.Op {
	case api.SBlock:
		w.block(s.Block[0])
		return // it has a semicolon of its own
	case api.SIf, api.SLoop, api.SWhile, api.SFor, api.SEach:
		w.bodied(s)
	case api.SSelect, api.SFetch, api.SOpen, api.SClose:
		w.ofCursor(s)
	case api.SExit, api.SReturn, api.SRaise, api.SCommit, api.SRollback, api.SSave:
		w.leaving(s)
	default:
		w.doing(s)
	}
	w.Put(";")
}

// bodied writes a statement that has statements in it, but for a block.
func (w *writer) bodied(s api.Stmt) {
	switch s.Op {
	case api.SIf:
		w.choice(s)
		return
	case api.SWhile:
		w.Clause("while", s.Exprs)
	case api.SFor:
		w.Put("for", s.Text, "in")
		w.PutIf(s.Back, "reverse")
		w.bounds(s.Exprs)
	case api.SEach:
		w.Put("for", s.Text, "in")
		w.Path(s.Path)
		for _, q := range s.Query {
			w.Put("(")
			w.Query(q)
			w.Put(")")
		}
	}
	w.Put("loop")
	w.stmts(s.Bodies[0])
	w.Put("end", "loop")
}

func (w *writer) choice(s api.Stmt) {
	for i, e := range s.Exprs {
		w.PutIf(i == 0, "if")
		w.PutIf(i > 0, "elsif")
		w.Expr(e)
		w.Put("then")
		w.stmts(s.Bodies[i])
	}
	for _, l := range s.Bodies[len(s.Exprs):] {
		w.Put("else")
		w.stmts(l)
	}
	w.Put("end", "if")
}

// bounds writes two expressions as the sums that the grammar wants.
func (w *writer) bounds(l []api.Expr) {
	w.Operand(l[0])
	w.Put("..")
	w.Operand(l[1])
}

// ofCursor writes a statement about the rows of a query or cursor.
func (w *writer) ofCursor(s api.Stmt) {
	switch s.Op {
	case api.SSelect:
		w.QueryInto(s.Query[0], func() { w.into(s) })
	case api.SFetch:
		w.Put("fetch")
		w.Path(s.Path)
		w.into(s)
		w.Clause("limit", s.Exprs)
	case api.SOpen:
		w.Put("open")
		w.Path(s.Path)
	case api.SClose:
		w.Put("close")
		w.Path(s.Path)
	}
}

func (w *writer) into(s api.Stmt) {
	w.PutIf(s.Bulk, "bulk", "collect")
	w.Put("into")
	grammar.WriteList(&w.Writer, s.Target, w.Expr)
}

// leaving writes a statement that leaves something, or ends a part of a transaction.
func (w *writer) leaving(s api.Stmt) {
	switch s.Op {
	case api.SExit:
		w.Put("exit")
		w.Clause("when", s.Exprs)
	case api.SReturn:
		w.Put("return")
		grammar.WriteList(&w.Writer, s.Exprs, w.Expr)
	case api.SRaise:
		w.Put("raise")
		w.Path(s.Path)
	case api.SCommit:
		w.Put("commit")
	case api.SRollback:
		w.Put("rollback")
		w.PutIf(s.Text != "", "to", s.Text)
	case api.SSave:
		w.Put("savepoint", s.Text)
	}
}

// doing writes a statement that changes variables or rows, calls something, or does nothing.
func (w *writer) doing(s api.Stmt) {
	switch s.Op {
	case api.SAssign:
		w.Expr(s.Target[0])
		w.Clause(":=", s.Exprs)
	case api.SNull:
		w.Put("null")
	case api.SCall:
		w.Path(s.Path)
		if len(s.Exprs) > 0 {
			w.List(s.Exprs)
		}
	case api.SChange:
		w.Change(s.Change[0])
	case api.SForall:
		w.Put("forall", s.Text, "in")
		w.bounds(s.Exprs)
		w.Change(s.Change[0])
	}
}
