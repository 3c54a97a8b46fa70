package expr

import (
	"slices"

	"justiciar/api"
	"justiciar/lex"
	"justiciar/value"
)

// How much there may be.
const (
	maxNodes   = 2000 // expressions, queries and sources of an expression
	maxSources = 20   // of a query
	maxKeys    = 10   // by which a query groups, or orders
)

// Valid reports whether an expression is valid.
func Valid(e api.Expr) bool { return flaw(&e) == api.OK }

// flaw returns ErrLimit, if an expression has too many nodes, or one that is not right, or else ErrDeep, if it has too many levels.
func flaw(e *api.Expr) api.Errno {
	count, deep := 0, false
	for n := range nodes(e) {
		count++
		if count > maxNodes || !n.right() {
			return api.ErrLimit
		}
		deep = deep || n.level > api.MaxNest
	}
	if deep {
		return api.ErrDeep
	}
	return api.OK
}

// right reports whether a node is as it should be, whatever the nodes within it are.
func (n node) right() bool {
	switch {
	case n.expr != nil:
		return isPosition(n.expr.Line, n.expr.Col) && rightKids(n.expr.Op, len(n.expr.Kids)) && rightFields(*n.expr)
	case n.source != nil:
		return isPosition(n.source.Line, n.source.Col) && rightSource(n.source)
	}
	return isPosition(n.query.Line, n.query.Col) && rightQuery(n.query)
}

func isPosition(line, col int) bool {
	return 0 <= line && line <= api.MaxInt && 0 <= col && col <= api.MaxInt
}

// rightKids reports whether expressions of a kind have that many Kids.
func rightKids(op api.ExprOp, many int) bool {
	switch op {
	case api.EUnary, api.ENull:
		return many == 1
	case api.EBinary:
		return many == 2
	case api.EBetween:
		return many == 3
	case api.EIn, api.ECase:
		return many >= 2
	case api.ECall:
		return true
	}
	return many == 0
}

// rightFields looks at the fields that an expression has because of its Op, and empties them: then all others have to be empty, too.
func rightFields(e api.Expr) bool {
	ok := true
	switch e.Op {
	case api.EConst:
		ok = value.Valid(e.Val) && e.Val.N >= 0
		e.Val = api.Value{}
	case api.EName:
		ok = isPath(e.Path, 3) && e.Text == "" || isOfRow(e.Path) && e.Text == ":"
		e.Path, e.Text = nil, ""
	case api.EUnary:
		ok = isUnary(e.Text)
		e.Text = ""
	case api.EBinary:
		ok = isBinary(e.Text)
		e.Text = ""
	case api.ENull, api.EIn, api.EBetween:
		e.Not = false
	case api.ECall:
		ok = isPath(e.Path, 3) || isOnly(e.Path, "count")
		e.Path = nil
	case api.EQuery, api.EExists:
		ok = len(e.Query) == 1 && !e.Query[0].Lock
		e.Query = nil
	case api.EMark:
		ok = (isPath(e.Path, 1) || isOnly(e.Path, "sql")) && slices.Contains(marks(), e.Text)
		e.Path, e.Text = nil, ""
	case api.ECase, api.EStar: // they have their Kids alone, or nothing
	default:
		return false
	}
	e.Kids = nil
	return ok && Same(e, api.Expr{Op: e.Op})
}

func rightQuery(q *api.Query) bool {
	return q.Star == (len(q.List) == 0) && len(q.List) <= api.MaxCols && each(q.List, rightItem) &&
		len(q.From) >= 1 && len(q.From) <= maxSources && len(q.Where) <= 1 && len(q.Having) <= 1 &&
		len(q.Group) <= maxKeys && len(q.Order) <= maxKeys
}

func rightItem(x *api.Item) bool { return x.As == "" || lex.Name(x.As) }

func rightSource(s *api.Source) bool {
	return isPath(s.Path, 2) && len(s.AsOf) <= 1 && (s.As == "" || lex.Name(s.As))
}

// isPath reports whether a path is names, one at least.
func isPath(path []string, most int) bool {
	return 1 <= len(path) && len(path) <= most && each(path, func(s *string) bool { return lex.Name(*s) })
}

// isOfRow reports whether a path is that of a column of one of the rows that a trigger has.
func isOfRow(path []string) bool {
	return len(path) == 2 && slices.Contains(rows(), path[0]) && lex.Name(path[1])
}

func isOnly(path []string, word string) bool { return len(path) == 1 && path[0] == word }

// isUnary asks layer 1, which refuses what is no operation of one.
func isUnary(op string) bool {
	_, e := value.Unary(op, api.Value{})
	return e != api.ErrArg
}

// isBinary asks layer 1, which refuses what is no operation between two.
func isBinary(op string) bool {
	_, e := value.Binary(op, api.Value{}, api.Value{})
	return e != api.ErrArg
}
