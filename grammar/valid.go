package grammar

import (
	"slices"

	"justiciar/api"
	"justiciar/lex"
	"justiciar/list"
	"justiciar/value"
)

// How much there may be.
const (
	maxNodes   = 2000 // expressions, queries, sources and changes of a whole
	maxSources = 20   // of a query
	maxKeys    = 10   // by which a query groups, or orders
)

// Valid reports whether a node, as a whole, is valid.
func Valid(n Node) bool { return flawOf(n) == api.OK }

func flawOf(whole Node) api.Errno {
	_, code := Flaw(whole)
	return code
}

// Flaw returns ErrLimit, if a whole has too many nodes, or one that is not right, or else ErrDeep, if it has too many levels; and how many nodes it has looked at for that.
func Flaw(whole Node) (int, api.Errno) {
	count, deep := 0, false
	for n := range Nodes(whole) {
		count++
		if count > maxNodes || !n.right() {
			return count, api.ErrLimit
		}
		deep = deep || n.level > api.MaxNest
	}
	if deep {
		return count, api.ErrDeep
	}
	return count, api.OK
}

// right reports whether a node is as it should be, whatever the nodes within it are.
func (n Node) right() bool {
	switch {
	case n.Expr != nil:
		return IsPosition(n.Expr.Line, n.Expr.Col) && rightKids(n.Expr.Op, len(n.Expr.Kids)) && rightFields(*n.Expr)
	case n.Query != nil:
		return IsPosition(n.Query.Line, n.Query.Col) && rightQuery(n.Query)
	case n.Source != nil:
		return IsPosition(n.Source.Line, n.Source.Col) && rightSource(n.Source)
	case n.Change != nil:
		return IsPosition(n.Change.Line, n.Change.Col) && rightChange(n.Change)
	}
	return false
}

// IsPosition reports whether a line and a column may be those of a position, or missing.
func IsPosition(line, col int) bool {
	return 0 <= line && line <= api.MaxInt && 0 <= col && col <= api.MaxInt
}

// rightKids reports whether expressions of a kind have that many Kids.
func rightKids(op api.ExprOp, many int) bool {
	switch op {
	case api.EUnary, api.ENull:
		return many == 1
	case api.EBinary:
		return many == 2
	case api.EBetween:
		return many == 3
	case api.EIn, api.ECase:
		return many >= 2
	case api.ECall:
		return true
	}
	return many == 0
}

// rightFields looks at the fields that an expression has because of its Op, and empties them: then all others have to be empty, too.
func rightFields(e api.Expr) bool {
	ok := true
	switch e.Op {
	case api.EConst:
		ok = value.Valid(e.Val) && e.Val.N >= 0
		e.Val = api.Value{}
	case api.EName:
		ok = IsPath(e.Path, 3) && e.Text == "" || isOfRow(e.Path) && e.Text == ":"
		e.Path, e.Text = nil, ""
	case api.EUnary:
		ok = isUnary(e.Text)
		e.Text = ""
	case api.EBinary:
		ok = isBinary(e.Text)
		e.Text = ""
	case api.ENull, api.EIn, api.EBetween:
		e.Not = false
	case api.ECall:
		ok = IsPath(e.Path, 3) || isOnly(e.Path, "count")
		e.Path = nil
	case api.EQuery, api.EExists:
		ok = IsInner(e.Query)
		e.Query = nil
	case api.EMark:
		ok = (IsPath(e.Path, 1) || isOnly(e.Path, "sql")) && slices.Contains(marks(), e.Text)
		e.Path, e.Text = nil, ""
	case api.ECase, api.EStar: // they have their Kids alone, or nothing
	default:
		return false
	}
	e.Kids = nil
	return ok && SameExpr(e, api.Expr{Op: e.Op})
}

func rightQuery(q *api.Query) bool {
	return q.Star == (len(q.List) == 0) && len(q.List) <= api.MaxCols && list.Each(q.List, rightItem) &&
		len(q.From) >= 1 && len(q.From) <= maxSources && len(q.Where) <= 1 && len(q.Having) <= 1 &&
		len(q.Group) <= maxKeys && len(q.Order) <= maxKeys
}

func rightItem(x *api.Item) bool { return x.As == "" || lex.Name(x.As) }

func rightSource(s *api.Source) bool {
	return IsPath(s.Path, 2) && len(s.AsOf) <= 1 && (s.As == "" || lex.Name(s.As))
}

func rightChange(x *api.Change) bool {
	return IsPath(x.Path, 2) && len(x.Cols) <= api.MaxCols && list.Each(x.Cols, IsName) && len(x.Vals) <= api.MaxCols && len(x.Where) <= 1 && rightParts(x)
}

// rightParts reports whether a change has the parts that its Op wants, and no others.
func rightParts(x *api.Change) bool {
	switch x.Op {
	case api.CInsert:
		return len(x.Where) == 0 && (len(x.Vals) > 0 && len(x.Query) == 0 || len(x.Vals) == 0 && IsInner(x.Query))
	case api.CUpdate:
		return len(x.Cols) > 0 && len(x.Vals) == len(x.Cols) && len(x.Query) == 0
	case api.CDelete:
		return len(x.Cols) == 0 && len(x.Vals) == 0 && len(x.Query) == 0
	}
	return false
}

// IsPath reports whether a path is names, one at least, and not too many.
func IsPath(path []string, most int) bool {
	return 1 <= len(path) && len(path) <= most && list.Each(path, IsName)
}

// IsName reports whether a string is a name.
func IsName(s *string) bool { return lex.Name(*s) }

// IsInner reports whether queries are just one, as it may stand within something else.
func IsInner(l []api.Query) bool { return len(l) == 1 && !l[0].Lock }

// isOfRow reports whether a path is that of a column of one of the rows that a trigger has.
func isOfRow(path []string) bool {
	return len(path) == 2 && slices.Contains(rows(), path[0]) && lex.Name(path[1])
}

func isOnly(path []string, word string) bool { return len(path) == 1 && path[0] == word }

// isUnary asks layer 1, which refuses what is no operation of one.
func isUnary(op string) bool {
	_, e := value.Unary(op, api.Value{})
	return e != api.ErrArg
}

// isBinary asks layer 1, which refuses what is no operation between two.
func isBinary(op string) bool {
	_, e := value.Binary(op, api.Value{}, api.Value{})
	return e != api.ErrArg
}
