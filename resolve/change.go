package resolve

import (
	"slices"
	"strings"

	"justiciar/api"
	"justiciar/kind"
	"justiciar/object"
)

// change settles the names in a change.
func (r *resolver) change(x *api.Change) {
	path := strings.Join(x.Path, ".")
	o := object.Mean(r.c, r.user, x.Path)
	want(o != nil, changeFault{api.ErrName, x, path})
	want(o.Kind == api.OTable, changeFault{api.ErrKind, x, path})
	cols := columnsOf(o)
	s := &scope{}
	if x.Op == api.CInsert {
		fill(x, cols)
	} else {
		s.sources = []source{{name: last(x.Path), cols: cols}}
	}
	kinds := targets(x, cols)
	if len(x.Query) > 0 {
		r.inserted(x, kinds)
	} else {
		want(len(x.Vals) == len(kinds), changeFault{code: api.ErrCount, at: x})
	}
	r.values(x.Vals, single(s), kinds...)
	r.values(x.Where, single(s), api.VBool)
	x.Path = []string{o.Owner, o.Name}
}

// fill gives an insert all columns of its table, if it names none.
func fill(x *api.Change, cols []api.Named) {
	if len(x.Cols) > 0 {
		return
	}
	for _, col := range cols {
		x.Cols = append(x.Cols, col.Name)
	}
}

// targets returns the kinds of the columns that a change gives values.
func targets(x *api.Change, cols []api.Named) []api.Kind {
	var kinds []api.Kind
	for i, name := range x.Cols {
		at := slices.IndexFunc(cols, func(col api.Named) bool { return col.Name == name })
		want(at >= 0, changeFault{api.ErrName, x, name})
		want(!slices.Contains(x.Cols[:i], name), changeFault{api.ErrTwice, x, name})
		kinds = append(kinds, cols[at].Type)
	}
	return kinds
}

// inserted settles the names in the query of an insert.
func (r *resolver) inserted(x *api.Change, kinds []api.Kind) {
	q := &x.Query[0]
	names := r.query(q, nil)
	want(len(names) == len(kinds), changeFault{code: api.ErrCount, at: x})
	for i, k := range kinds {
		want(kind.Fit(names[i].Type, k), queryFault{api.ErrType, q})
	}
}
