package grammar

import "justiciar/api"

// subquery reads a query, and the bracket behind it.
func (r *Reader) subquery() []api.Query {
	q := r.Query()
	r.Want(")")
	return []api.Query{q}
}

// WholeQuery reads a query that is the whole of what it stands for, and therefore may be for update.
func (r *Reader) WholeQuery() api.Query {
	q := r.Query()
	q.Lock = r.forUpdate()
	return q
}

// QueryInto reads a whole query, of items, with what a closure reads between these and its sources.
func (r *Reader) QueryInto(into func()) api.Query {
	q := r.begunQuery()
	q.List = ReadList(r, r.item)
	into()
	r.restOf(&q)
	q.Lock = r.forUpdate()
	return q
}

// Query reads a query that may not be for update.
func (r *Reader) Query() api.Query {
	q := r.begunQuery()
	q.Star = r.Take("*")
	if !q.Star {
		q.List = ReadList(r, r.item)
	}
	r.restOf(&q)
	return q
}

func (r *Reader) begunQuery() api.Query {
	t := r.Want("select")
	return api.Query{Line: t.Line, Col: t.Col, Distinct: r.Take("distinct")}
}

// restOf reads the sources of a query, and what may stand behind them.
func (r *Reader) restOf(q *api.Query) {
	r.Want("from")
	q.From = ReadList(r, r.source)
	q.Where = r.perhaps("where")
	if r.Take("group") {
		r.Want("by")
		q.Group = ReadList(r, r.Expr)
	}
	q.Having = r.perhaps("having")
	if r.Take("order") {
		r.Want("by")
		q.Order = ReadList(r, r.order)
	}
}

func (r *Reader) forUpdate() bool {
	lock := r.Take("for")
	if lock {
		r.Want("update")
	}
	return lock
}

// perhaps reads a word and an expression, if the word comes next.
func (r *Reader) perhaps(word string) []api.Expr {
	if !r.Take(word) {
		return nil
	}
	return []api.Expr{r.Expr()}
}

func (r *Reader) item() api.Item {
	x := api.Item{Expr: r.Expr()}
	if r.Take("as") {
		x.As = r.Name()
	}
	return x
}

func (r *Reader) source() api.Source {
	t := r.Next()
	s := api.Source{Path: r.Path(2), Line: t.Line, Col: t.Col}
	if r.Take("as") {
		r.Want("of")
		s.AsOf = []api.Expr{r.Sum()}
	}
	if r.Next().Kind == api.TokName {
		s.As = r.Name()
	}
	return s
}

func (r *Reader) order() api.Order {
	e := r.Expr()
	return api.Order{Expr: e, Desc: r.Take("desc")}
}
