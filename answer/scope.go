package answer

import "justiciar/api"

// combination is a row of each source of a query.
type combination []api.Held

// scope is what an expression is calculated with: a row of each source of its query, and the scope of what is around that.
type scope struct {
	read   *api.Image // what sources without a time read
	rows   combination
	group  []combination // of a group of rows: all of them, of which rows is the first
	around *scope
}

// outside returns the scope that has nothing around it, and reads the present image.
func (k *calculation) outside() *scope { return &scope{read: k.present()} }

// within returns the scope of a query within what is calculated with this one.
func (s *scope) within() *scope { return &scope{read: s.read, around: s} }

// with returns the scope with rows of its query's sources.
func (s *scope) with(rows combination) *scope {
	return &scope{read: s.read, rows: rows, around: s.around}
}

// withGroup returns the scope with a group of rows, which may be none.
func (s *scope) withGroup(group []combination) *scope {
	x := &scope{read: s.read, group: group, around: s.around}
	if len(group) > 0 {
		x.rows = group[0]
	}
	return x
}

// column returns the value of a column: null, if it is missing at the end of its row, or there is no row.
func (s *scope) column(e *api.Expr) api.Value {
	for range e.A {
		s = s.around
	}
	if len(s.rows) == 0 || len(s.rows[e.B].Row) <= e.C {
		return api.Value{}
	}
	return s.rows[e.B].Row[e.C]
}
