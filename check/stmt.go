package check

import (
	"justiciar/api"
	"justiciar/fault"
	"justiciar/kind"
	"justiciar/value"
)

func (p place) stmts(l []api.Stmt) {
	for i := range l {
		p.stmt(&l[i])
	}
}

func (p place) stmt(s *api.Stmt) {
	switch s.Op {
	case api.SAssign:
		k := p.target(&s.Target[0])
		p.value(&s.Exprs[0], k)
	case api.SCall:
		p.callStmt(s)
	case api.SIf:
		p.choice(s)
	case api.SLoop, api.SWhile:
		p.values(s.Exprs, api.VBool)
		p.inLoop().stmts(s.Bodies[0])
	case api.SFor:
		p.values(s.Exprs, api.VInt)
		p.with(s.Text, fixed(api.VInt)).inLoop().stmts(s.Bodies[0])
	case api.SEach:
		record := thing{sort: aRecord, cols: p.rows(s)}
		p.with(s.Text, record).inLoop().stmts(s.Bodies[0])
	case api.SBlock:
		p.block(&s.Block[0])
	case api.SChange:
		p.change(&s.Change[0])
	case api.SForall:
		p.values(s.Exprs, api.VInt)
		p.with(s.Text, fixed(api.VInt)).change(&s.Change[0])
	case api.SOpen, api.SClose:
		p.rows(s)
	case api.SSelect, api.SFetch:
		p.into(s, p.rows(s))
		p.values(s.Exprs, api.VInt)
	default:
		p.leave(s)
	}
}

// leave looks at statements that leave other ones, or end transactions.
func (p place) leave(s *api.Stmt) {
	switch s.Op {
	case api.SExit:
		want(p.loop, atStmt(api.ErrKind, s))
		p.values(s.Exprs, api.VBool)
	case api.SReturn:
		gives := p.sub != nil && p.sub.Fun
		want(gives == (len(s.Exprs) > 0), atStmt(api.ErrKind, s))
		if gives {
			p.value(&s.Exprs[0], p.sub.Ret.Base)
		}
	case api.SRaise:
		code := p.raised(s.Path)
		want(code == api.OK, atStmt(code, s))
	case api.SCommit, api.SRollback, api.SSave:
		within := p.trigger != nil || p.sub != nil && p.sub.Fun && !p.sub.Auto // a statement, whose transaction goes on
		want(!within, atStmt(api.ErrKind, s))
	}
}

// choice looks at conditions, each with its statements.
func (p place) choice(s *api.Stmt) {
	for i := range s.Bodies {
		if i < len(s.Exprs) {
			p.value(&s.Exprs[i], api.VBool)
		}
		p.stmts(s.Bodies[i])
	}
}

// rows looks at the query or the cursor of a statement, and returns its columns.
func (p place) rows(s *api.Stmt) []api.Named {
	if len(s.Query) > 0 {
		return p.query(&s.Query[0])
	}
	t, code := p.cursor(s.Path[0])
	want(code == api.OK, atStmt(code, s))
	return t.cols
}

// into looks at the targets of a statement, to which the values of columns go.
func (p place) into(s *api.Stmt, cols []api.Named) {
	look := p.target
	if s.Bulk {
		look = p.arrayTarget
	}
	var kinds []api.Kind
	for i := range s.Target {
		kinds = append(kinds, look(&s.Target[i]))
	}
	want(len(kinds) == len(cols), atStmt(api.ErrCount, s))
	for i, k := range kinds {
		want(kind.Fit(cols[i].Type, k), fault.Expr(api.ErrType, &s.Target[i]))
	}
}

// callStmt looks at the call of a procedure, or at what is called as if it were one.
func (p place) callStmt(s *api.Stmt) {
	switch {
	case p.isPut(s.Path):
		want(len(s.Exprs) == 1, atStmt(api.ErrCount, s))
		p.exprs(s.Exprs)
	case p.isClear(s.Path):
		array, _ := p.array(s.Path[:1])
		want(array.set, atStmt(api.ErrKind, s))
		want(len(s.Exprs) == 0, atStmt(api.ErrCount, s))
	default:
		sub, code := p.called(s.Path)
		want(code == api.OK, atStmt(code, s))
		want(!sub.Fun, atStmt(api.ErrKind, s))
		want(len(s.Exprs) == len(sub.Params), atStmt(api.ErrCount, s))
		p.arguments(sub, s.Exprs)
	}
}

// isPut reports whether a path means what puts out a line.
func (p place) isPut(path []string) bool {
	_, hidden := p.names.find("put")
	return len(path) == 1 && path[0] == "put" && !hidden
}

// isClear reports whether a path means what empties an array.
func (p place) isClear(path []string) bool {
	if len(path) != 2 || path[1] != "clear" {
		return false
	}
	_, ok := p.array(path[:1])
	return ok
}

// handlers looks at the handlers of a block.
func (p place) handlers(l []api.Handler) {
	seen := map[string]bool{}
	for i := range l {
		h := &l[i]
		last := i == len(l)-1
		for _, name := range h.Names {
			at := titled{name, h.Line, h.Col}
			code := p.handled(name, last && len(h.Names) == 1)
			want(code == api.OK, at.fault(code))
			want(!seen[name], at.fault(api.ErrTwice))
			seen[name] = true
		}
		p.inHandler().stmts(h.Body)
	}
}

// handled returns the error of a name as one of those of a handler, which may perhaps stand for all.
func (p place) handled(name string, all bool) api.Errno {
	switch {
	case name != "others":
		return p.exception(name)
	case !all:
		return api.ErrKind
	}
	return api.OK
}

// raised returns the error of raising the exception of a path, or again the one that is handled.
func (p place) raised(path []string) api.Errno {
	switch {
	case len(path) > 0:
		return p.exception(path[0])
	case !p.handler:
		return api.ErrKind
	}
	return api.OK
}

// exception returns the error of a name as that of an exception.
func (p place) exception(name string) api.Errno {
	t, ok := p.names.find(name)
	switch {
	case ok && t.sort != anException:
		return api.ErrKind
	case !ok && value.Number(name) == 0:
		return api.ErrName
	}
	return api.OK
}
