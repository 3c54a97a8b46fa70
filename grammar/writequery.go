package grammar

import "justiciar/api"

// subquery writes a query in brackets.
func (w *Writer) subquery(q api.Query) {
	w.Put("(")
	w.Query(q)
	w.Put(")")
}

// Query writes a query.
func (w *Writer) Query(q api.Query) { w.QueryInto(q, func() {}) }

// QueryInto writes a query, with what a closure writes between its items and its sources.
func (w *Writer) QueryInto(q api.Query, into func()) {
	w.Put("select")
	w.PutIf(q.Distinct, "distinct")
	w.PutIf(q.Star, "*")
	WriteList(w, q.List, w.item)
	into()
	w.Put("from")
	WriteList(w, q.From, w.source)
	w.Clause("where", q.Where)
	w.PutIf(len(q.Group) > 0, "group", "by")
	WriteList(w, q.Group, w.Expr)
	w.Clause("having", q.Having)
	w.PutIf(len(q.Order) > 0, "order", "by")
	WriteList(w, q.Order, w.order)
	w.PutIf(q.Lock, "for", "update")
}

func (w *Writer) item(x api.Item) {
	w.Expr(x.Expr)
	w.PutIf(x.As != "", "as", x.As)
}

func (w *Writer) source(s api.Source) {
	w.Path(s.Path)
	for _, e := range s.AsOf {
		w.Put("as", "of")
		w.Operand(e)
	}
	w.PutIf(s.As != "", s.As)
}

func (w *Writer) order(o api.Order) {
	w.Expr(o.Expr)
	w.PutIf(o.Desc, "desc")
}
