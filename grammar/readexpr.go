package grammar

import "justiciar/api"

// at returns an expression with a token's position.
func at(t api.Token, e api.Expr) api.Expr {
	e.Line, e.Col = t.Line, t.Col
	return e
}

func unary(op api.Token, a api.Expr) api.Expr {
	return at(op, api.Expr{Op: api.EUnary, Text: op.Text, Kids: []api.Expr{a}})
}

func binary(op api.Token, a, b api.Expr) api.Expr {
	return at(op, api.Expr{Op: api.EBinary, Text: op.Text, Kids: []api.Expr{a, b}})
}

// chain reads operands, with operations between them that bind alike.
func (r *Reader) chain(operand func() api.Expr, ops ...string) api.Expr {
	e := operand()
	for {
		op, ok := r.takeOne(ops...)
		if !ok {
			return e
		}
		e = binary(op, e, operand())
	}
}

// Expr reads an expression.
func (r *Reader) Expr() api.Expr { return r.chain(r.and, "or") }

func (r *Reader) and() api.Expr { return r.chain(r.not, "and") }

func (r *Reader) not() api.Expr {
	if op, ok := r.takeOne("not"); ok {
		return unary(op, r.not())
	}
	return r.comp()
}

func (r *Reader) comp() api.Expr {
	e := r.Sum()
	if op, ok := r.takeOne("=", "<>", "<", "<=", ">", ">="); ok {
		return binary(op, e, r.Sum())
	}
	if op, ok := r.takeOne("is"); ok {
		not := r.Take("not")
		r.Want("null")
		return at(op, api.Expr{Op: api.ENull, Not: not, Kids: []api.Expr{e}})
	}
	if not, ok := r.takeOne("not"); ok {
		return r.denied(not, e)
	}
	if op, ok := r.takeOne("in", "between", "like"); ok {
		return r.compared(op, e)
	}
	return e
}

// denied reads what follows an operand and a not. The not belongs to the comparison itself, but for like.
func (r *Reader) denied(not api.Token, a api.Expr) api.Expr {
	op := r.Want("in", "between", "like")
	e := r.compared(op, a)
	if op.Text == "like" {
		return unary(not, e)
	}
	e.Not = true
	return at(not, e)
}

// compared reads what follows an operand and an in, between or like.
func (r *Reader) compared(op api.Token, a api.Expr) api.Expr {
	switch op.Text {
	case "in":
		r.Want("(")
		return at(op, api.Expr{Op: api.EIn, Kids: append([]api.Expr{a}, r.exprs()...)})
	case "between":
		low := r.Sum()
		r.Want("and")
		high := r.Sum()
		return at(op, api.Expr{Op: api.EBetween, Kids: []api.Expr{a, low, high}})
	}
	return binary(op, a, r.Sum())
}

// Sum reads an expression without comparisons, not, and, or, but in brackets.
func (r *Reader) Sum() api.Expr { return r.chain(r.prod, "+", "-", "||") }

func (r *Reader) prod() api.Expr { return r.chain(r.unary, "*", "/", "mod") }

func (r *Reader) unary() api.Expr {
	if op, ok := r.takeOne("-"); ok {
		return unary(op, r.unary())
	}
	return r.prim()
}

func (r *Reader) prim() api.Expr {
	t := r.Next()
	switch {
	case t.Kind == api.TokName:
		return at(t, r.named())
	case t.Kind == api.TokInt:
		r.skip()
		return at(t, constant(api.Value{Kind: api.VInt, N: t.N}))
	case t.Kind == api.TokText:
		r.skip()
		return at(t, constant(api.Value{Kind: api.VText, Text: t.Text}))
	case !r.Take("("):
		return at(t, r.begun())
	case r.Stands("select"):
		return at(t, api.Expr{Op: api.EQuery, Query: r.subquery()})
	}
	e := r.Expr()
	r.Want(")")
	return e
}

func constant(v api.Value) api.Expr { return api.Expr{Op: api.EConst, Val: v} }

// named reads a name, a call, or what is asked of a cursor.
func (r *Reader) named() api.Expr {
	path := r.Path(3)
	switch {
	case r.Take("("):
		return api.Expr{Op: api.ECall, Path: path, Kids: r.Arguments()}
	case len(path) == 1 && r.Stands("%"):
		return r.mark(path)
	}
	return api.Expr{Op: api.EName, Path: path}
}

// begun reads an expression that a word or a sign begins.
func (r *Reader) begun() api.Expr {
	switch r.Want("true", "false", "null", ":", "sql", "count", "exists", "case").Text {
	case "true":
		return constant(api.Value{Kind: api.VBool, N: 1})
	case "false":
		return constant(api.Value{Kind: api.VBool})
	case "null":
		return constant(api.Value{})
	case ":":
		return r.ofRow()
	case "sql":
		return r.mark([]string{"sql"})
	case "count":
		return r.count()
	case "exists":
		r.Want("(")
		return api.Expr{Op: api.EExists, Query: r.subquery()}
	case "case":
		return api.Expr{Op: api.ECase, Kids: r.cases()}
	}
	return api.Expr{}
}

// ofRow reads a column of one of the rows that a trigger has, behind its colon.
func (r *Reader) ofRow() api.Expr {
	row := r.Want(rows()...).Text
	r.Want(".")
	return api.Expr{Op: api.EName, Path: []string{row, r.Name()}, Text: ":"}
}

// rows returns the words for the rows that a trigger has.
func rows() []string { return []string{"new", "old"} }

// mark reads what is asked of a cursor, behind its name.
func (r *Reader) mark(path []string) api.Expr {
	r.Want("%")
	return api.Expr{Op: api.EMark, Path: path, Text: r.Want(marks()...).Text}
}

// marks returns the words for what is known of a cursor.
func marks() []string { return []string{"found", "notfound", "isopen", "rowcount"} }

// count reads what follows its word. It may have as many arguments as another aggregate: layer 7 counts them.
func (r *Reader) count() api.Expr {
	r.Want("(")
	if r.Take("*") {
		r.Want(")")
		return api.Expr{Op: api.EStar}
	}
	return api.Expr{Op: api.ECall, Path: []string{"count"}, Kids: r.Arguments()}
}

// Arguments reads what follows the bracket of a call.
func (r *Reader) Arguments() []api.Expr {
	if r.Take(")") {
		return nil
	}
	return r.exprs()
}

// exprs reads expressions, and the bracket behind them.
func (r *Reader) exprs() []api.Expr {
	l := ReadList(r, r.Expr)
	r.Want(")")
	return l
}

// cases reads what follows the word case.
func (r *Reader) cases() []api.Expr {
	var l []api.Expr
	for r.Take("when") {
		l = append(l, r.Expr())
		r.Want("then")
		l = append(l, r.Expr())
	}
	if r.Take("else") {
		l = append(l, r.Expr())
	}
	r.Want("end")
	return l
}
