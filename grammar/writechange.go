package grammar

import "justiciar/api"

// Change writes a change.
func (w *Writer) Change(x api.Change) {
	switch x.Op {
	case api.CInsert:
		w.Put("insert", "into")
		w.Path(x.Path)
		w.columns(x.Cols)
		w.inserted(x)
	case api.CUpdate:
		w.Put("update")
		w.Path(x.Path)
		w.Put("set")
		w.settings(x)
	case api.CDelete:
		w.Put("delete", "from")
		w.Path(x.Path)
	}
	w.Clause("where", x.Where)
}

// columns writes the columns of an insert, if it names any.
func (w *Writer) columns(l []string) {
	if len(l) == 0 {
		return
	}
	w.Put("(")
	WriteList(w, l, func(s string) { w.Put(s) })
	w.Put(")")
}

// inserted writes the values, or the query, of an insert.
func (w *Writer) inserted(x api.Change) {
	if len(x.Vals) > 0 {
		w.Put("values")
		w.List(x.Vals)
	}
	for _, q := range x.Query {
		w.Query(q)
	}
}

// settings writes the columns of an update, and what they are set to.
func (w *Writer) settings(x api.Change) {
	for i, e := range x.Vals {
		w.PutIf(i > 0, ",")
		w.Put(x.Cols[i], "=")
		w.Expr(e)
	}
}
