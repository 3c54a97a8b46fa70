package check

import (
	"slices"

	"justiciar/api"
	"justiciar/fault"
	"justiciar/kind"
	"justiciar/value"
)

// value looks at an expression that should be of a kind.
func (p place) value(e *api.Expr, k api.Kind) {
	want(kind.Fit(p.expr(e), k), fault.Expr(api.ErrType, e))
}

// values looks at expressions that should be of a kind.
func (p place) values(l []api.Expr, k api.Kind) {
	for i := range l {
		p.value(&l[i], k)
	}
}

// exprs looks at expressions, and returns their kinds.
func (p place) exprs(l []api.Expr) []api.Kind {
	var kinds []api.Kind
	for i := range l {
		kinds = append(kinds, p.expr(&l[i]))
	}
	return kinds
}

// expr looks at an expression outside of queries and changes, and returns its kind.
func (p place) expr(e *api.Expr) api.Kind {
	switch e.Op {
	case api.EName:
		t := p.name(e)
		want(!t.typ.Array, fault.Expr(api.ErrKind, e))
		return t.typ.Base
	case api.ECall:
		return p.call(e)
	case api.EMark:
		return p.mark(e)
	}
	k, at, code := kind.Of(e, p.exprs(e.Kids)) // ErrKind at a query, and at count(*)
	want(code == api.OK, fault.Expr(code, at))
	return k
}

// mark looks at what is asked of a cursor, or of sql.
func (p place) mark(e *api.Expr) api.Kind {
	if e.Path[0] != "sql" {
		_, code := p.cursor(e.Path[0])
		want(code == api.OK, fault.Expr(code, e))
	}
	if e.Text == "rowcount" {
		return api.VInt
	}
	return api.VBool
}

// call looks at an element of an array, or at the call of a function.
func (p place) call(e *api.Expr) api.Kind {
	if t, ok := p.array(e.Path); ok {
		return p.element(e, t)
	}
	if p.isBuiltin(e.Path) {
		k, code := kind.Call(e.Path[0], p.exprs(e.Kids)...)
		want(code == api.OK, fault.Expr(code, e))
		return k
	}
	s, code := p.called(e.Path)
	if code == api.OK {
		code = callable(s, len(e.Kids))
	}
	want(code == api.OK, fault.Expr(code, e))
	p.arguments(s, e.Kids)
	return s.Ret.Base
}

// isBuiltin reports whether a path means a function of layer 1.
func (p place) isBuiltin(path []string) bool {
	_, hidden := p.names.find(path[0])
	return len(path) == 1 && value.Builtin(path[0]) && !hidden
}

// callable returns the error of calling a sub in an expression with so many arguments.
func callable(s *api.Sub, many int) api.Errno {
	gives := func(m api.Param) bool { return m.Mode != api.In }
	switch {
	case !s.Fun || slices.ContainsFunc(s.Params, gives):
		return api.ErrKind
	case many != len(s.Params):
		return api.ErrCount
	}
	return api.OK
}

// element looks at an element of an array, and returns its kind.
func (p place) element(e *api.Expr, array thing) api.Kind {
	want(len(e.Kids) == 1, fault.Expr(api.ErrCount, e))
	p.value(&e.Kids[0], api.VInt)
	return array.typ.Base
}

// arguments looks at the arguments for a sub, of which there are as many as parameters.
func (p place) arguments(s *api.Sub, l []api.Expr) {
	for i := range l {
		p.argument(&s.Params[i], &l[i])
	}
}

func (p place) argument(m *api.Param, e *api.Expr) {
	if m.Type.Array && e.Op == api.EName {
		t := p.name(e)
		want(t.typ == m.Type, fault.Expr(api.ErrType, e))
		want(t.set || m.Mode == api.In, fault.Expr(api.ErrKind, e))
		return
	}
	look := p.expr
	if m.Mode != api.In {
		look = p.target
	}
	k := look(e)
	want(kind.Fit(k, m.Type.Base) && !m.Type.Array, fault.Expr(api.ErrType, e))
}

// target looks at what a value goes to, and returns its kind.
func (p place) target(e *api.Expr) api.Kind {
	want(e.Op == api.EName || e.Op == api.ECall, fault.Expr(api.ErrKind, e))
	k := p.expr(e)
	want(p.isSet(e), fault.Expr(api.ErrKind, e))
	return k
}

// isSet reports whether a name without a fault, or an element of an array, can be assigned.
func (p place) isSet(e *api.Expr) bool {
	if e.Op == api.EName {
		return p.name(e).set
	}
	t, ok := p.array(e.Path)
	return ok && t.set
}

// arrayTarget looks at an array to which the values of a column go, and returns their kind.
func (p place) arrayTarget(e *api.Expr) api.Kind {
	if e.Op != api.EName {
		p.expr(e)
		panic(fault.Expr(api.ErrKind, e))
	}
	t := p.name(e)
	want(t.typ.Array && t.set, fault.Expr(api.ErrKind, e))
	return t.typ.Base
}
