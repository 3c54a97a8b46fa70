package resolve

import (
	"slices"

	"justiciar/api"
)

// scope is where names are looked for: in the sources of a query or a change, and then in the scope around it.
type scope struct {
	sources []source
	around  *scope
	queries int // how many queries what stands in it is within
}

// source is what names can mean in a source: its name, and all its columns, of which those of a view may have none.
type source struct {
	name   string
	cols   []api.Named
	isView bool
}

// within returns the scope of a query, as yet without sources.
func within(around *scope) *scope {
	s := &scope{around: around, queries: 1}
	if around != nil {
		s.queries += around.queries
	}
	return s
}

// has reports whether there is a source of that name.
func (s *scope) has(name string) bool {
	return slices.ContainsFunc(s.sources, func(x source) bool { return x.name == name })
}

// isTable reports whether there is one source alone, and that is a table.
func (s *scope) isTable() bool { return len(s.sources) == 1 && !s.sources[0].isView }

// columns returns where the columns of a name are, in all sources that are wanted: the source, and the column of it.
func (s *scope) columns(name string, wanted func(x source) bool) [][2]int {
	var l [][2]int
	for b, x := range s.sources {
		for c, col := range x.cols {
			if col.Name == name && wanted(x) {
				l = append(l, [2]int{b, c})
			}
		}
	}
	return l
}

// column returns where the column is that a name means in this very scope; false, if it means something further out, or a bind.
func (s *scope) column(e *api.Expr) ([2]int, bool) {
	name := last(e.Path)
	var l [][2]int
	switch len(e.Path) {
	case 1:
		l = s.columns(name, func(source) bool { return true })
	case 2:
		l = s.columns(name, func(x source) bool { return x.name == e.Path[0] })
		want(len(l) > 0 || !s.has(e.Path[0]), exprFault{api.ErrName, e})
	}
	if len(l) == 0 {
		return [2]int{}, false
	}
	want(len(l) == 1, exprFault{api.ErrTwice, e})
	return l[0], true
}

// name settles a name, and returns its kind.
func (r *resolver) name(e *api.Expr, s *scope) api.Kind {
	if e.Text == ":" {
		return r.bind(e, append([]string{":" + e.Path[0]}, e.Path[1:]...))
	}
	for up := 0; s != nil; up, s = up+1, s.around {
		if at, ok := s.column(e); ok {
			e.Op, e.A, e.B, e.C = api.ECol, up, at[0], at[1]
			return s.sources[e.B].cols[e.C].Type
		}
	}
	return r.bind(e, e.Path)
}

// bind settles a name as the bind with a path, and returns its kind.
func (r *resolver) bind(e *api.Expr, path []string) api.Kind {
	at, ok := r.bound[asKey(path)]
	want(ok, exprFault{api.ErrName, e})
	e.Op, e.A = api.EBind, at
	return r.binds[at].Type
}
