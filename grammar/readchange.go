package grammar

import "justiciar/api"

func (r *reader) change() api.Change {
	t := r.want("insert", "update", "delete")
	x := api.Change{Line: t.Line, Col: t.Col}
	switch t.Text {
	case "insert":
		r.want("into")
		x.Op, x.Path = api.CInsert, r.path(2)
		x.Cols = r.columns()
		r.inserted(&x)
	case "update":
		x.Op, x.Path = api.CUpdate, r.path(2)
		r.want("set")
		r.settings(&x)
		x.Where = r.perhaps("where")
	case "delete":
		r.want("from")
		x.Op, x.Path = api.CDelete, r.path(2)
		x.Where = r.perhaps("where")
	}
	return x
}

// columns reads the columns of an insert, if it names any.
func (r *reader) columns() []string {
	if !r.take("(") {
		return nil
	}
	l := readList(r, r.name)
	r.want(")")
	return l
}

// inserted reads the values, or the query, of an insert.
func (r *reader) inserted(x *api.Change) {
	if r.take("values") {
		r.want("(")
		x.Vals = r.exprs()
		return
	}
	x.Query = []api.Query{r.query()}
}

// settings reads the columns of an update, and what they are set to.
func (r *reader) settings(x *api.Change) {
	x.Vals = readList(r, func() api.Expr {
		x.Cols = append(x.Cols, r.name())
		r.want("=")
		return r.expr()
	})
}
