package check

import (
	"strconv"

	"justiciar/api"
	"justiciar/grammar"
	"justiciar/resolve"
)

// view looks at the query of a view, which others name by what it selects.
func (x *program) view(q *api.Query) {
	_, names, f := resolve.Query(x.plain, x.owner, nil, *q)
	want(f.Code == api.OK, f)
	seen := map[string]bool{}
	for _, n := range names {
		want(n.Name != "", api.Fault{Code: api.ErrName, Line: q.Line, Col: q.Col})
		want(!seen[n.Name], api.Fault{Code: api.ErrTwice, Name: n.Name, Line: q.Line, Col: q.Col})
		seen[n.Name] = true
	}
}

// table looks at the defaults and checks of a table.
func (x *program) table(o *api.Object) {
	t := &o.Table[0]
	for i := range t.Cols {
		for j := range t.Cols[i].Default {
			wantAlone(o.Owner, &t.Cols[i].Default[j], t.Cols[i].Type)
		}
	}
	for i := range t.Cons {
		for j := range t.Cons[i].Expr {
			wantOver(x.plain, o, nil, &t.Cons[i].Expr[j], api.VBool)
		}
	}
}

// wantAlone raises the fault of an expression that should name nothing, and be of a kind. Layer 7 resolves it over a table, so this is one without anything that is named.
func wantAlone(owner string, e *api.Expr, k api.Kind) {
	other := unnamed(e)
	t := api.Table{Cols: []api.Column{{Name: other, Type: api.VInt}}}
	o := api.Object{Owner: owner, Name: other, Kind: api.OTable, Table: []api.Table{t}, Stamp: 1, Valid: true}
	c := api.Catalog{Users: []string{owner}, Objects: []api.Object{o}, Stamp: 1}
	wantOver(c, &o, nil, e, k)
}

// unnamed returns a name that does not stand in an expression.
func unnamed(e *api.Expr) string {
	named := map[string]bool{}
	for n := range grammar.Nodes(grammar.Node{Expr: e}) {
		if n.Expr != nil {
			for _, name := range n.Expr.Path {
				named[name] = true
			}
		}
	}
	for i := 1; ; i++ {
		if name := "x" + strconv.Itoa(i); !named[name] {
			return name
		}
	}
}
