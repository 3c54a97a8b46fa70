package grammar

import "justiciar/api"

// Change reads a change.
func (r *Reader) Change() api.Change {
	t := r.Want("insert", "update", "delete")
	x := api.Change{Line: t.Line, Col: t.Col}
	switch t.Text {
	case "insert":
		r.Want("into")
		x.Op, x.Path = api.CInsert, r.Path(2)
		x.Cols = r.columns()
		r.inserted(&x)
	case "update":
		x.Op, x.Path = api.CUpdate, r.Path(2)
		r.Want("set")
		r.settings(&x)
		x.Where = r.perhaps("where")
	case "delete":
		r.Want("from")
		x.Op, x.Path = api.CDelete, r.Path(2)
		x.Where = r.perhaps("where")
	}
	return x
}

// columns reads the columns of an insert, if it names any.
func (r *Reader) columns() []string {
	if !r.Take("(") {
		return nil
	}
	l := ReadList(r, r.Name)
	r.Want(")")
	return l
}

// inserted reads the values, or the query, of an insert.
func (r *Reader) inserted(x *api.Change) {
	if r.Take("values") {
		r.Want("(")
		x.Vals = r.exprs()
		return
	}
	x.Query = []api.Query{r.Query()}
}

// settings reads the columns of an update, and what they are set to.
func (r *Reader) settings(x *api.Change) {
	x.Vals = ReadList(r, func() api.Expr {
		x.Cols = append(x.Cols, r.Name())
		r.Want("=")
		return r.Expr()
	})
}
