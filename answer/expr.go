package answer

import (
	"justiciar/aggregate"
	"justiciar/api"
	"justiciar/value"
)

// exprs calculates expressions.
func (k *calculation) exprs(l []api.Expr, s *scope) []api.Value {
	var vals []api.Value
	for i := range l {
		vals = append(vals, k.expr(&l[i], s))
	}
	return vals
}

// expr calculates an expression.
func (k *calculation) expr(e *api.Expr, s *scope) api.Value {
	switch e.Op {
	case api.EConst:
		return e.Val
	case api.ECol:
		return s.column(e)
	case api.EBind:
		return k.binds[e.A].Val
	case api.EUnary:
		return right(value.Unary(e.Text, k.expr(&e.Kids[0], s)))
	case api.EBinary:
		return k.binary(e, s)
	case api.ENull:
		return turned(e, truth(k.expr(&e.Kids[0], s).Kind == api.VNull))
	case api.EIn:
		return turned(e, k.in(e.Kids, s))
	case api.EBetween:
		l := k.exprs(e.Kids, s)
		return turned(e, right(value.Between(l[0], l[1], l[2])))
	case api.ECase:
		return k.choice(e.Kids, s)
	case api.ECall, api.EStar:
		return k.call(e, s)
	case api.EQuery:
		return k.only(&e.Query[0], s)
	case api.EExists:
		return turned(e, truth(len(k.query(&e.Query[0], s.within(), nil)) > 0))
	}
	panic(api.ErrKind) // nothing else has been resolved
}

func (k *calculation) isTrue(e *api.Expr, s *scope) bool { return value.True(k.expr(e, s)) }

func number(n int) api.Value { return api.Value{Kind: api.VInt, N: n} }

func truth(b bool) api.Value {
	if b {
		return api.Value{Kind: api.VBool, N: 1}
	}
	return api.Value{Kind: api.VBool}
}

// turned returns a truth, or, if the expression has Not, its opposite.
func turned(e *api.Expr, v api.Value) api.Value {
	if e.Not {
		return right(value.Unary("not", v))
	}
	return v
}

// binary calculates the second Kid only if the first one does not decide.
func (k *calculation) binary(e *api.Expr, s *scope) api.Value {
	a := k.expr(&e.Kids[0], s)
	if e.Text == "and" && a == truth(false) || e.Text == "or" && a == truth(true) {
		return a
	}
	b := k.expr(&e.Kids[1], s)
	return right(value.Binary(e.Text, a, b))
}

// in returns whether the first of some expressions is one of the others, which are calculated up to the first that is equal.
func (k *calculation) in(l []api.Expr, s *scope) api.Value {
	a := k.expr(&l[0], s)
	var others []api.Value
	for i := range l[1:] {
		v := k.expr(&l[1+i], s)
		others = append(others, v)
		if value.True(right(value.In(a, []api.Value{v}))) {
			break
		}
	}
	return right(value.In(a, others))
}

// choice returns what a case gives, of its Kids: conditions, each with what is given then, and perhaps one more, that is given else.
func (k *calculation) choice(l []api.Expr, s *scope) api.Value {
	for ; len(l) >= 2; l = l[2:] {
		if k.isTrue(&l[0], s) {
			return k.expr(&l[1], s)
		}
	}
	if len(l) == 1 {
		return k.expr(&l[0], s)
	}
	return api.Value{}
}

// call returns what a function gives, or an aggregate of the scope's group.
func (k *calculation) call(e *api.Expr, s *scope) api.Value {
	if !aggregate.Is(e) {
		return right(value.Call(e.Path[0], k.exprs(e.Kids, s)))
	}
	if e.Op == api.EStar {
		return number(len(s.group))
	}
	var l []api.Value
	for _, rows := range s.group {
		l = append(l, k.expr(&e.Kids[0], s.with(rows)))
	}
	return right(value.Aggregate(e.Path[0], l))
}

// only returns the value of a query's only row; null, if there is none.
func (k *calculation) only(q *api.Query, s *scope) api.Value {
	l := k.query(q, s.within(), nil)
	want(len(l) <= 1, api.ErrMany)
	if len(l) == 0 {
		return api.Value{}
	}
	return l[0].row[0]
}
