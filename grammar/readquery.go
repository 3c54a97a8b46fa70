package grammar

import "justiciar/api"

// subquery reads a query, and the bracket behind it.
func (r *reader) subquery() []api.Query {
	q := r.query()
	r.want(")")
	return []api.Query{q}
}

// outerQuery reads a query that is within nothing else, and therefore may be for update.
func (r *reader) outerQuery() api.Query {
	q := r.query()
	q.Lock = r.take("for")
	if q.Lock {
		r.want("update")
	}
	return q
}

func (r *reader) query() api.Query {
	t := r.want("select")
	q := api.Query{Line: t.Line, Col: t.Col}
	q.Distinct = r.take("distinct")
	q.Star = r.take("*")
	if !q.Star {
		q.List = readList(r, r.item)
	}
	r.want("from")
	q.From = readList(r, r.source)
	q.Where = r.perhaps("where")
	if r.take("group") {
		r.want("by")
		q.Group = readList(r, r.expr)
	}
	q.Having = r.perhaps("having")
	if r.take("order") {
		r.want("by")
		q.Order = readList(r, r.order)
	}
	return q
}

// perhaps reads a word and an expression, if the word comes next.
func (r *reader) perhaps(word string) []api.Expr {
	if !r.take(word) {
		return nil
	}
	return []api.Expr{r.expr()}
}

func (r *reader) item() api.Item {
	x := api.Item{Expr: r.expr()}
	if r.take("as") {
		x.As = r.name()
	}
	return x
}

func (r *reader) source() api.Source {
	t := r.next()
	s := api.Source{Path: r.path(2), Line: t.Line, Col: t.Col}
	if r.take("as") {
		r.want("of")
		s.AsOf = []api.Expr{r.sum()}
	}
	if r.next().Kind == api.TokName {
		s.As = r.name()
	}
	return s
}

func (r *reader) order() api.Order {
	e := r.expr()
	return api.Order{Expr: e, Desc: r.take("desc")}
}
