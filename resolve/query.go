package resolve

import (
	"cmp"
	"slices"

	"justiciar/aggregate"
	"justiciar/api"
	"justiciar/expr"
)

// query settles the names in a query, and returns what it selects. Queries within others, and those of views, are never for update: that would not be valid.
func (r *resolver) query(q *api.Query, around *scope) []api.Named {
	s := within(around)
	for i := range q.From {
		r.source(&q.From[i], s)
	}
	names := r.selection(q, s)
	where := r.exprs(q.Where, single(s))
	r.exprs(q.Group, single(s))
	having := r.exprs(q.Having, open(s))
	for i := range q.Order {
		r.expr(&q.Order[i].Expr, open(s))
	}
	wantBools(q.Where, where)
	wantBools(q.Having, having)
	grouped := aggregate.Groups(q)
	if grouped {
		wantGroups(q)
	}
	if q.Distinct {
		wantSelected(q)
	}
	want(!q.Lock || s.isTable() && len(q.From[0].AsOf) == 0 && !grouped && !q.Distinct, queryFault{api.ErrKind, q})
	return names
}

// source settles a source, and puts it into the scope of its query.
func (r *resolver) source(x *api.Source, s *scope) {
	want(len(s.sources) < api.MaxJoin, sourceFault{api.ErrLimit, x})
	o, cols, code := r.readable(x.Path)
	want(code == api.OK, sourceFault{code, x})
	r.values(x.AsOf, plain(&scope{}), api.VInt)
	name := cmp.Or(x.As, last(x.Path))
	want(!s.has(name), sourceFault{api.ErrTwice, x})
	s.sources = append(s.sources, source{name, cols, o.Kind == api.OView})
	x.Path, x.As = []string{o.Owner, o.Name}, name
}

func last(path []string) string { return path[len(path)-1] }

// selection settles the names in what a query selects, and returns that.
func (r *resolver) selection(q *api.Query, s *scope) []api.Named {
	if q.Star {
		return selectAll(q, s)
	}
	var names []api.Named
	for i := range q.List {
		x := &q.List[i]
		name := x.As
		if name == "" && x.Expr.Op == api.EName && x.Expr.Text == "" {
			name = last(x.Expr.Path)
		}
		names = append(names, api.Named{Name: name, Type: r.expr(&x.Expr, open(s))})
	}
	return names
}

// selectAll makes a query select all columns of all its sources.
func selectAll(q *api.Query, s *scope) []api.Named {
	var names []api.Named
	for b, x := range s.sources {
		for c, col := range x.cols {
			e := api.Expr{Op: api.ECol, B: b, C: c, Line: q.Line, Col: q.Col}
			q.List = append(q.List, api.Item{Expr: e, As: col.Name})
			names = append(names, col)
		}
	}
	want(len(names) <= api.MaxCols*api.MaxJoin, queryFault{api.ErrLimit, q})
	return names
}

// exprsOf returns all expressions of a query but those of its sources, in order.
func exprsOf(q *api.Query) []*api.Expr {
	var all []*api.Expr
	for i := range q.List {
		all = append(all, &q.List[i].Expr)
	}
	for _, l := range [][]api.Expr{q.Where, q.Group, q.Having} {
		for i := range l {
			all = append(all, &l[i])
		}
	}
	for i := range q.Order {
		all = append(all, &q.Order[i].Expr)
	}
	return all
}

// resultsOf returns the expressions of a query that are for the rows, or groups, of its result: those of List, Having and Order.
func resultsOf(q *api.Query) []*api.Expr {
	results := *q
	results.Where, results.Group = nil, nil
	return exprsOf(&results)
}

// wantGroups raises a fault at the first column that need not be the same in all rows of a group.
func wantGroups(q *api.Query) {
	for _, e := range resultsOf(q) {
		wantOfGroup(e, 0, func(e *api.Expr) bool { return aggregate.Is(e) || hasSame(q.Group, e) })
	}
}

// wantOfGroup looks for such a column in an expression within so many queries in the one that is grouped, but not where a closure says that all is of the group.
func wantOfGroup(e *api.Expr, up int, ofGroup func(e *api.Expr) bool) {
	if up == 0 && ofGroup(e) {
		return
	}
	want(e.Op != api.ECol || e.A != up, exprFault{api.ErrGroup, e})
	for i := range e.Kids {
		wantOfGroup(&e.Kids[i], up, ofGroup)
	}
	for i := range e.Query {
		for _, inner := range exprsOf(&e.Query[i]) {
			wantOfGroup(inner, up+1, ofGroup)
		}
	}
}

// wantSelected raises a fault at the first expression by which a query is ordered, but which it does not select.
func wantSelected(q *api.Query) {
	for i := range q.Order {
		e := &q.Order[i].Expr
		want(slices.ContainsFunc(q.List, func(x api.Item) bool { return expr.Same(x.Expr, *e) }), exprFault{api.ErrKind, e})
	}
}

// hasSame reports whether an expression is the same as one of a list.
func hasSame(l []api.Expr, e *api.Expr) bool {
	return slices.ContainsFunc(l, func(x api.Expr) bool { return expr.Same(x, *e) })
}
