package resolve

import (
	"strings"

	"justiciar/aggregate"
	"justiciar/api"
	"justiciar/kind"
)

// place is where an expression stands, with the errors of what must not stand there.
type place struct {
	*scope
	aggregate, query api.Errno
}

// open is a place where all may stand.
func open(s *scope) place { return place{scope: s} }

// single is a place where no aggregate may stand, as there are no groups of rows.
func single(s *scope) place { return place{scope: s, aggregate: api.ErrGroup} }

// plain is a place where neither an aggregate nor a query may stand.
func plain(s *scope) place { return place{s, api.ErrKind, api.ErrKind} }

// exprs settles the names in expressions, and returns the kinds of these.
func (r *resolver) exprs(l []api.Expr, p place) []api.Kind {
	var kinds []api.Kind
	for i := range l {
		kinds = append(kinds, r.expr(&l[i], p))
	}
	return kinds
}

// values settles the names in expressions that should be of some kinds. A fault of one of them, its kind's as well, comes ahead of all those of the next one.
func (r *resolver) values(l []api.Expr, p place, kinds ...api.Kind) {
	for i := range l {
		want(kind.Fit(r.expr(&l[i], p), kinds[i]), exprFault{api.ErrType, &l[i]})
	}
}

// expr settles the names in an expression, and returns its kind.
func (r *resolver) expr(e *api.Expr, p place) api.Kind {
	kids := r.exprs(e.Kids, p.ofKids(e))
	switch e.Op {
	case api.EName:
		return r.name(e, p.scope)
	case api.ECall, api.EStar:
		return call(e, kids, p)
	case api.EQuery, api.EExists:
		return r.inner(e, p)
	}
	k, at, code := kind.Of(e, kids)
	want(code == api.OK, exprFault{code, at})
	return k
}

// ofKids returns the place of an expression's Kids.
func (p place) ofKids(e *api.Expr) place {
	if aggregate.Is(e) && p.aggregate == api.OK {
		p.aggregate = api.ErrGroup
	}
	return p
}

// call returns the kind of what a function or an aggregate gives.
func call(e *api.Expr, kids []api.Kind, p place) api.Kind {
	if aggregate.Is(e) {
		want(p.aggregate == api.OK, exprFault{p.aggregate, e})
	}
	if e.Op == api.EStar {
		return api.VInt
	}
	k, code := kind.Call(strings.Join(e.Path, "."), kids...)
	want(code == api.OK, exprFault{code, e})
	return k
}

// inner settles the names in the query of an expression, and returns the kind of the expression.
func (r *resolver) inner(e *api.Expr, p place) api.Kind {
	want(p.query == api.OK, exprFault{p.query, e})
	want(p.queries < maxQueries, exprFault{api.ErrDeep, e})
	names := r.query(&e.Query[0], p.scope)
	if e.Op == api.EExists {
		return api.VBool
	}
	want(len(names) == 1, exprFault{api.ErrCount, e})
	return names[0].Type
}
