package grammar

import "justiciar/api"

func (w *writer) change(x api.Change) {
	switch x.Op {
	case api.CInsert:
		w.put("insert", "into")
		w.path(x.Path)
		w.columns(x.Cols)
		w.inserted(x)
	case api.CUpdate:
		w.put("update")
		w.path(x.Path)
		w.put("set")
		w.settings(x)
	case api.CDelete:
		w.put("delete", "from")
		w.path(x.Path)
	}
	w.clause("where", x.Where)
}

// columns writes the columns of an insert, if it names any.
func (w *writer) columns(l []string) {
	if len(l) == 0 {
		return
	}
	w.put("(")
	writeList(w, l, func(s string) { w.put(s) })
	w.put(")")
}

// inserted writes the values, or the query, of an insert.
func (w *writer) inserted(x api.Change) {
	if len(x.Vals) > 0 {
		w.put("values")
		w.list(x.Vals)
	}
	for _, q := range x.Query {
		w.query(q)
	}
}

// settings writes the columns of an update, and what they are set to.
func (w *writer) settings(x api.Change) {
	for i, e := range x.Vals {
		w.putIf(i > 0, ",")
		w.put(x.Cols[i], "=")
		w.expr(e)
	}
}
