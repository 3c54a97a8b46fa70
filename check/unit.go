package check

import (
	"strings"

	"justiciar/api"
	"justiciar/fault"
	"justiciar/kind"
	"justiciar/object"
	"justiciar/part"
	"justiciar/resolve"
)

// unit looks at a unit of a kind.
func (x *program) unit(k api.ObjKind, u *api.Unit) {
	p := place{program: x}
	switch k {
	case api.OProc:
		p = p.with(u.Subs[0].Name, subOf(&u.Subs[0]))
	case api.OPackage:
		p = p.pack(u)
	case api.OTrigger:
		x.fire(&u.On[0], &u.Subs[0])
	}
	for i := range u.Subs {
		p.inSub(&u.Subs[i])
	}
}

// pack looks at the declarations of a package, and returns the place where its subs stand.
func (p place) pack(u *api.Unit) place {
	wantDifferent(append(titles(u.Decls, titleOfDecl), titles(u.Subs, titleOfSub)...))
	things := map[string]thing{}
	for i := range u.Subs {
		things[u.Subs[i].Name] = subOf(&u.Subs[i])
	}
	p = p.within(things)
	for i := range u.Decls {
		d := &u.Decls[i]
		want(d.Op != api.DCursor, titleOfDecl(d).fault(api.ErrKind))
		things[d.Name] = p.declare(d)
	}
	return p
}

// block looks at a block.
func (p place) block(b *api.Block) {
	wantDifferent(titles(b.Decls, titleOfDecl))
	things := map[string]thing{}
	p = p.within(things)
	for i := range b.Decls {
		things[b.Decls[i].Name] = p.declare(&b.Decls[i])
	}
	p.stmts(b.Body)
	p.handlers(b.When)
}

// declare looks at a declaration, and returns the thing that it makes.
func (p place) declare(d *api.Decl) thing {
	t := declared(d)
	p.values(d.Init, d.Type.Base)
	if d.Op == api.DCursor {
		t.cols = p.query(&d.Query[0])
	}
	return t
}

// inSub looks at a sub. That a function does not return is found at its first token, so ahead of all within it.
func (p place) inSub(s *api.Sub) {
	want(!s.Fun || returns(s), titleOfSub(s).fault(api.ErrEnd))
	wantDifferent(titles(s.Params, titleOfParam))
	things := map[string]thing{}
	for _, m := range s.Params {
		things[m.Name] = variable(m.Type, m.Mode != api.In)
	}
	p.sub = s
	p.within(things).block(&s.Block)
}

// returns reports whether a sub has a statement that returns.
func returns(s *api.Sub) bool {
	isOther := func(p part.Part) bool { return p.Stmt == nil || p.Stmt.Op != api.SReturn }
	return !part.Looker(isOther).Block(&s.Block, 1)
}

// fire looks at when a trigger fires.
func (x *program) fire(g *api.Trigger, s *api.Sub) {
	o := object.Find(x.c, object.KeyOf("", g.On))
	missing := api.Fault{Code: api.ErrName, Name: strings.Join(g.On, "."), Line: s.Line, Col: s.Col}
	want(o != nil && o.Kind == api.OTable, missing)
	x.trigger = g
	var binds []api.Bind
	if g.Each {
		for _, col := range o.Table[0].Cols {
			x.row = append(x.row, api.Named{Name: col.Name, Type: col.Type})
			binds = append(binds, api.Bind{Path: []string{":new", col.Name}, Type: col.Type}, api.Bind{Path: []string{":old", col.Name}, Type: col.Type})
		}
	}
	for i := range g.When {
		wantOver(x.plain, o, binds, &g.When[i], api.VBool)
	}
}

// wantOver raises the fault of an expression over a table, which should be of a kind.
func wantOver(c api.Catalog, o *api.Object, binds []api.Bind, e *api.Expr, k api.Kind) {
	_, found, f := resolve.Expr(c, o.Owner, o.Name, binds, *e)
	want(f.Code == api.OK, f)
	want(kind.Fit(found, k), fault.Expr(api.ErrType, e))
}
