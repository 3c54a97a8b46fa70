package answer

import (
	"slices"

	"justiciar/api"
	"justiciar/clone"
	"justiciar/grammar"
	"justiciar/image"
	"justiciar/object"
	"justiciar/resolve"
)

// held returns the rows of a change's table.
func (k *calculation) held(x *api.Change) []api.Held {
	return image.Rows(k.present(), object.KeyOf("", x.Path))
}

func (k *calculation) table(x *api.Change) *api.Object {
	return object.Find(k.c, object.KeyOf("", x.Path))
}

// found returns the numbers of the rows that an update or a delete is for.
func (k *calculation) found(x *api.Change) []int {
	holds := k.condition(x.Where)
	var l []int
	for _, h := range k.held(x) {
		if holds(k.outside().with(combination{h})) {
			l = append(l, h.Id)
		}
	}
	return l
}

// updated returns the row with a number after an update.
func (k *calculation) updated(x *api.Change, id int) api.Row {
	rows := k.held(x)
	i := slices.IndexFunc(rows, func(h api.Held) bool { return h.Id == id })
	want(i >= 0, api.ErrNone)
	vals := k.exprs(x.Vals, k.outside().with(combination{rows[i]}))
	cols := k.table(x).Table[0].Cols
	row := make(api.Row, len(cols))
	copy(row, rows[i].Row)
	return filled(row, cols, x.Cols, vals)
}

// filled returns a copy of a row with other values of some columns.
func filled(row api.Row, cols []api.Column, names []string, vals []api.Value) api.Row {
	row = slices.Clone(row)
	for i, name := range names {
		at := slices.IndexFunc(cols, func(col api.Column) bool { return col.Name == name })
		row[at] = vals[i]
	}
	return row
}

// added returns the rows of an insert.
func (k *calculation) added(x *api.Change) []api.Row {
	inserted := k.inserted(x)
	if len(inserted) == 0 {
		return nil // no row needs defaults, so their errors do not count
	}
	o := k.table(x)
	row := k.defaults(o, x.Cols)
	var l []api.Row
	for _, vals := range inserted {
		l = append(l, filled(row, o.Table[0].Cols, x.Cols, vals))
	}
	return l
}

// inserted returns the values that an insert gives its columns, for each row.
func (k *calculation) inserted(x *api.Change) [][]api.Value {
	if len(x.Query) == 0 {
		return [][]api.Value{k.exprs(x.Vals, k.outside())}
	}
	var l [][]api.Value
	for _, r := range k.query(&x.Query[0], k.outside(), nil) {
		l = append(l, r.row)
	}
	return l
}

// defaults returns a row of the defaults of a table's columns: null for those that have none, and for those of some names. They are the same for all rows that an insert adds, as a default names nothing.
func (k *calculation) defaults(o *api.Object, but []string) api.Row {
	var row api.Row
	for _, col := range o.Table[0].Cols {
		var v api.Value
		if len(col.Default) > 0 && !slices.Contains(but, col.Name) {
			found, _, f := resolve.Expr(*k.c, o.Owner, o.Name, nil, nameless(col.Default[0]))
			wantOK(f.Code)
			v = k.expr(&found, k.outside())
		}
		row = append(row, v)
	}
	return row
}

// nameless returns a copy of an expression in which no name can mean a column: each is a path of three.
func nameless(e api.Expr) api.Expr {
	e = clone.Expr(e)
	for n := range grammar.Nodes(grammar.Node{Expr: &e}) {
		if n.Expr != nil && n.Expr.Op == api.EName && n.Expr.Text == "" {
			n.Expr.Path = slices.Repeat(n.Expr.Path[:1], 3)
		}
	}
	return e
}
