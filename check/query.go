package check

import (
	"cmp"
	"strconv"
	"strings"

	"justiciar/api"
	"justiciar/clone"
	"justiciar/grammar"
	"justiciar/resolve"
)

// query looks at a query, and returns what it selects.
func (p place) query(q *api.Query) []api.Named {
	own := clone.Query(*q)
	binds := p.bindsOf(grammar.Node{Query: &own})
	_, names, f := resolve.Query(p.plain, p.owner, binds, own)
	want(f.Code == api.OK, f)
	return names
}

// change looks at a change.
func (p place) change(x *api.Change) {
	own := clone.Change(*x)
	binds := p.bindsOf(grammar.Node{Change: &own})
	_, f := resolve.Change(p.plain, p.owner, binds, own)
	want(f.Code == api.OK, f)
}

// bindsOf returns the binds of a query or change, in which it exchanges elements of arrays for names.
func (p place) bindsOf(whole grammar.Node) []api.Bind {
	elements := p.elements(whole)
	l := append(p.named(whole), elements...)
	p.binds = append(p.binds, l)
	return l
}

// elements looks at the elements of arrays in a query or change, exchanges them for names, and returns the binds for these.
func (p place) elements(whole grammar.Node) []api.Bind {
	var l []api.Bind
	for n := range grammar.Nodes(whole) {
		e := n.Expr
		if e == nil || e.Op != api.ECall {
			continue
		}
		if t, ok := p.array(e.Path); ok {
			b := api.Bind{Path: []string{e.Path[0], "element", "e" + strconv.Itoa(len(l)+1)}, Type: p.element(e, t)}
			*e = api.Expr{Op: api.EName, Path: b.Path, Line: e.Line, Col: e.Col}
			l = append(l, b)
		}
	}
	return l
}

// named returns the binds that names in a query or change mean, each once.
func (p place) named(whole grammar.Node) []api.Bind {
	var l []api.Bind
	seen := map[string]bool{}
	for n := range grammar.Nodes(whole) {
		if n.Expr == nil || n.Expr.Op != api.EName {
			continue
		}
		path := n.Expr.Text + strings.Join(n.Expr.Path, ".")
		if t, code := p.mean(n.Expr); code == api.OK && t.bound && !seen[path] {
			seen[path] = true
			l = append(l, api.Bind{Path: strings.Split(path, "."), Type: typeOf(t)})
		}
	}
	return l
}

// typeOf returns the type of a bind. A record's column may be of none, as it is always null: that fits any, but layer 7 wants one.
func typeOf(t thing) api.Kind { return cmp.Or(t.typ.Base, api.VInt) }
