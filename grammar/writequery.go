package grammar

import "justiciar/api"

// subquery writes a query in brackets.
func (w *writer) subquery(q api.Query) {
	w.put("(")
	w.query(q)
	w.put(")")
}

func (w *writer) query(q api.Query) {
	w.put("select")
	w.putIf(q.Distinct, "distinct")
	w.putIf(q.Star, "*")
	writeList(w, q.List, w.item)
	w.put("from")
	writeList(w, q.From, w.source)
	w.clause("where", q.Where)
	w.putIf(len(q.Group) > 0, "group", "by")
	writeList(w, q.Group, w.expr)
	w.clause("having", q.Having)
	w.putIf(len(q.Order) > 0, "order", "by")
	writeList(w, q.Order, w.order)
	w.putIf(q.Lock, "for", "update")
}

func (w *writer) item(x api.Item) {
	w.expr(x.Expr)
	w.putIf(x.As != "", "as", x.As)
}

func (w *writer) source(s api.Source) {
	w.path(s.Path)
	for _, e := range s.AsOf {
		w.put("as", "of")
		w.operand(e)
	}
	w.putIf(s.As != "", s.As)
}

func (w *writer) order(o api.Order) {
	w.expr(o.Expr)
	w.putIf(o.Desc, "desc")
}
