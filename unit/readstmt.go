package unit

import (
	"justiciar/api"
	"justiciar/grammar"
)

// stmts reads statements, as many as there are.
func (r reader) stmts() []api.Stmt {
	var l []api.Stmt
	for read := r.stmtRule(); read != nil; read = r.stmtRule() {
		first := r.Next()
		s := read()
		s.Line, s.Col = first.Line, first.Col
		if s.Op != api.SBlock { // a block has a semicolon of its own
			r.Want(";")
		}
		l = append(l, s)
	}
	return l
}

// stmtRule returns how the statement is read that the next token begins; nil, if it begins none.
func (r reader) stmtRule() func() api.Stmt {
	t := r.Next()
	switch {
	case t.Kind == api.TokName:
		return r.named
	case r.Stands(":"):
		return r.assigned
	case t.Kind != api.TokWord:
		return nil
	}
	switch t.Text {
	case "declare", "begin":
		return r.inner
	case "insert", "update", "delete":
		return r.change
	case "if":
		return r.choice
	case "loop", "while":
		return r.loop
	case "for":
		return r.loopFor
	case "forall":
		return r.changeFor
	case "select":
		return r.selectInto
	case "fetch":
		return r.fetch
	case "open":
		return r.open
	case "close":
		return r.close
	case "exit":
		return r.exit
	case "return":
		return r.returned
	case "raise":
		return r.raise
	case "null":
		return r.nothing
	case "commit":
		return r.commit
	case "rollback":
		return r.rollback
	case "savepoint":
		return r.savepoint
	}
	return nil
}

// named reads a call, or an assignment to what is not of a row.
func (r reader) named() api.Stmt {
	first := r.Next()
	target := api.Expr{Op: api.EName, Path: r.Path(3), Line: first.Line, Col: first.Col}
	if r.Take("(") {
		target.Op, target.Kids = api.ECall, r.Arguments()
	}
	if r.Stands(":=") && (target.Op == api.EName || len(target.Kids) == 1) {
		return r.assignedTo(target)
	}
	return api.Stmt{Op: api.SCall, Path: target.Path, Exprs: target.Kids}
}

// assigned reads an assignment to a column of the new row.
func (r reader) assigned() api.Stmt { return r.assignedTo(r.target()) }

func (r reader) assignedTo(target api.Expr) api.Stmt {
	r.Want(":=")
	return api.Stmt{Op: api.SAssign, Target: []api.Expr{target}, Exprs: []api.Expr{r.Expr()}}
}

func (r reader) target() api.Expr {
	first := r.Next()
	e := api.Expr{Line: first.Line, Col: first.Col}
	if r.Take(":") {
		e.Op, e.Text = api.EName, ":"
		row := r.Want("new").Text
		r.Want(".")
		e.Path = []string{row, r.Name()}
		return e
	}
	e.Op, e.Path = api.EName, r.Path(3)
	if r.Take("(") {
		e.Op, e.Kids = api.ECall, []api.Expr{r.Expr()}
		r.Want(")")
	}
	return e
}

// into reads the targets of a query or cursor, and whether these are arrays.
func (r reader) into() ([]api.Expr, bool) {
	bulk := r.Take("bulk")
	if bulk {
		r.Want("collect")
	}
	r.Want("into")
	return grammar.ReadList(r.Reader, r.target), bulk
}

func (r reader) selectInto() api.Stmt {
	s := api.Stmt{Op: api.SSelect}
	q := r.QueryInto(func() { s.Target, s.Bulk = r.into() })
	s.Query = []api.Query{q}
	return s
}

func (r reader) fetch() api.Stmt {
	r.Want("fetch")
	s := api.Stmt{Op: api.SFetch, Path: []string{r.Name()}}
	s.Target, s.Bulk = r.into()
	if s.Bulk && r.Take("limit") {
		s.Exprs = []api.Expr{r.Expr()}
	}
	return s
}

func (r reader) open() api.Stmt {
	r.Want("open")
	return api.Stmt{Op: api.SOpen, Path: []string{r.Name()}}
}

func (r reader) close() api.Stmt {
	r.Want("close")
	return api.Stmt{Op: api.SClose, Path: []string{r.Name()}}
}

func (r reader) inner() api.Stmt { return api.Stmt{Op: api.SBlock, Block: []api.Block{r.block()}} }

func (r reader) change() api.Stmt { return api.Stmt{Op: api.SChange, Change: []api.Change{r.Change()}} }

// choice reads conditions and their statements.
func (r reader) choice() api.Stmt {
	s := api.Stmt{Op: api.SIf}
	branch := func(word string) {
		r.Want(word)
		s.Exprs = append(s.Exprs, r.Expr())
		r.Want("then")
		s.Bodies = append(s.Bodies, r.stmts())
	}
	branch("if")
	for r.Stands("elsif") {
		branch("elsif")
	}
	if r.Take("else") {
		s.Bodies = append(s.Bodies, r.stmts())
	}
	r.Want("end")
	r.Want("if")
	return s
}

// body reads the statements of a loop.
func (r reader) body() [][]api.Stmt {
	r.Want("loop")
	l := r.stmts()
	r.Want("end")
	r.Want("loop")
	return [][]api.Stmt{l}
}

func (r reader) loop() api.Stmt {
	s := api.Stmt{Op: api.SLoop}
	if r.Take("while") {
		s.Op, s.Exprs = api.SWhile, []api.Expr{r.Expr()}
	}
	s.Bodies = r.body()
	return s
}

// loopFor reads a loop for rows, or for the integers between bounds.
func (r reader) loopFor() api.Stmt {
	r.Want("for")
	s := api.Stmt{Text: r.Name()}
	r.Want("in")
	if !r.rows(&s) {
		s.Op, s.Back = api.SFor, r.Take("reverse")
		s.Exprs = r.bounds()
	}
	s.Bodies = r.body()
	return s
}

// rows reads the query or cursor of a loop, if there is one. What begins with a bracket and a query is no bound.
func (r reader) rows(s *api.Stmt) bool {
	s.Op = api.SEach
	switch {
	case r.Stands("(") && r.StandsBehind(1, "select"):
		r.Want("(")
		s.Query = []api.Query{r.WholeQuery()}
		r.Want(")")
		return true
	case r.Next().Kind == api.TokName && r.StandsBehind(1, "loop"):
		s.Path = []string{r.Name()}
		return true
	}
	return false
}

func (r reader) bounds() []api.Expr {
	low := r.Sum()
	r.Want("..")
	return []api.Expr{low, r.Sum()}
}

func (r reader) changeFor() api.Stmt {
	r.Want("forall")
	s := api.Stmt{Op: api.SForall, Text: r.Name()}
	r.Want("in")
	s.Exprs = r.bounds()
	s.Change = []api.Change{r.Change()}
	return s
}

func (r reader) exit() api.Stmt {
	r.Want("exit")
	s := api.Stmt{Op: api.SExit}
	if r.Take("when") {
		s.Exprs = []api.Expr{r.Expr()}
	}
	return s
}

func (r reader) returned() api.Stmt {
	r.Want("return")
	s := api.Stmt{Op: api.SReturn}
	if !r.Stands(";") {
		s.Exprs = []api.Expr{r.Expr()}
	}
	return s
}

func (r reader) raise() api.Stmt {
	r.Want("raise")
	s := api.Stmt{Op: api.SRaise}
	if !r.Stands(";") {
		s.Path = []string{r.Name()}
	}
	return s
}

func (r reader) nothing() api.Stmt {
	r.Want("null")
	return api.Stmt{Op: api.SNull}
}

func (r reader) commit() api.Stmt {
	r.Want("commit")
	return api.Stmt{Op: api.SCommit}
}

func (r reader) rollback() api.Stmt {
	r.Want("rollback")
	s := api.Stmt{Op: api.SRollback}
	if r.Take("to") {
		s.Text = r.Name()
	}
	return s
}

func (r reader) savepoint() api.Stmt {
	r.Want("savepoint")
	return api.Stmt{Op: api.SSave, Text: r.Name()}
}
