package unit

import (
	"justiciar/api"
	"justiciar/grammar"
	"justiciar/list"
)

// rightStmt reports whether a statement has what its Op wants, and nothing else, whatever the parts within it are. What has been looked at is emptied: then all the rest has to be empty, too.
func rightStmt(s api.Stmt) bool {
	if !grammar.IsPosition(s.Line, s.Col) {
		return false
	}
	return rightBodies(&s) && rightParts(&s) && sameStmt(s, api.Stmt{Op: s.Op})
}

// rightBodies looks at statements within a statement, and at the conditions or bounds, and the name, that belong to them.
func rightBodies(s *api.Stmt) bool {
	exprs, bodies := len(s.Exprs), len(s.Bodies)
	var ok bool
	switch s.Op {
	case api.SIf:
		ok = exprs >= 1 && (bodies == exprs || bodies == exprs+1)
	case api.SLoop:
		ok = exprs == 0 && bodies == 1
	case api.SWhile:
		ok = exprs == 1 && bodies == 1
	case api.SFor:
		ok = exprs == 2 && bodies == 1 && grammar.IsName(&s.Text) && (s.Back || s.Exprs[0].Op != api.EQuery)
		s.Text, s.Back = "", false
	case api.SEach:
		ok = exprs == 0 && bodies == 1 && grammar.IsName(&s.Text) && len(s.Query)+len(s.Path) == 1 && (len(s.Query) == 1 || grammar.IsPath(s.Path, 1))
		s.Text, s.Query, s.Path = "", nil, nil
	case api.SBlock:
		ok = len(s.Block) == 1 && rightBlock(&s.Block[0])
		s.Block = nil
		return ok
	default:
		return true
	}
	ok = ok && list.Each(s.Bodies, func(l *[]api.Stmt) bool { return len(*l) <= maxRow })
	s.Exprs, s.Bodies = nil, nil
	return ok
}

// rightParts looks at what the other statements have.
func rightParts(s *api.Stmt) bool {
	ok := true
	switch s.Op {
	case api.SIf, api.SLoop, api.SWhile, api.SFor, api.SEach, api.SBlock, api.SNull, api.SCommit:
	case api.SAssign:
		ok = rightTargets(s.Target, 1) && len(s.Exprs) == 1
		s.Target, s.Exprs = nil, nil
	case api.SExit, api.SReturn:
		ok = len(s.Exprs) <= 1
		s.Exprs = nil
	case api.SRaise:
		ok = len(s.Path) == 0 || grammar.IsPath(s.Path, 1)
		s.Path = nil
	case api.SOpen, api.SClose:
		ok = grammar.IsPath(s.Path, 1)
		s.Path = nil
	case api.SCall:
		ok = grammar.IsPath(s.Path, 3)
		s.Path, s.Exprs = nil, nil
	case api.SSelect:
		ok = len(s.Query) == 1 && !s.Query[0].Star && rightTargets(s.Target, api.MaxCols)
		s.Query, s.Target, s.Bulk = nil, nil, false
	case api.SFetch:
		ok = grammar.IsPath(s.Path, 1) && rightTargets(s.Target, api.MaxCols) && (len(s.Exprs) == 0 || s.Bulk && len(s.Exprs) == 1)
		s.Path, s.Target, s.Exprs, s.Bulk = nil, nil, nil, false
	case api.SChange:
		ok = len(s.Change) == 1
		s.Change = nil
	case api.SForall:
		ok = len(s.Change) == 1 && len(s.Exprs) == 2 && grammar.IsName(&s.Text)
		s.Change, s.Exprs, s.Text = nil, nil, ""
	case api.SRollback, api.SSave:
		ok = s.Op == api.SRollback && s.Text == "" || grammar.IsName(&s.Text)
		s.Text = ""
	default:
		ok = false
	}
	return ok
}

// rightTargets reports whether there are targets, and not too many; whether they are valid as expressions is asked elsewhere.
func rightTargets(l []api.Expr, most int) bool {
	return isAmong(len(l), most) && list.Each(l, func(e *api.Expr) bool {
		switch e.Op {
		case api.EName:
			return e.Text == "" || len(e.Path) == 2 && e.Path[0] == "new"
		case api.ECall:
			return len(e.Kids) == 1 && grammar.IsPath(e.Path, 3)
		}
		return false
	})
}
