package unit

import (
	"justiciar/api"
	"justiciar/grammar"
)

// def writes a definition, with its semicolon.
func (w *writer) def(d api.Def) {
	switch d.Op {
	case api.FCreate:
		w.Put("create")
		w.PutIf(d.Replace, "or", "replace")
		w.object(d.Object)
		return
	case api.FDrop:
		w.Put("drop", droppedWord(d.Object))
		w.Path(d.Path)
	case api.FAdd:
		w.Put("alter", "table")
		w.Path(d.Path)
		w.Put("add")
		w.column(d.Object.Table[0].Cols[0])
	case api.FGrant:
		w.Put("grant")
		w.grant(d, "to")
	case api.FRevoke:
		w.Put("revoke")
		w.grant(d, "from")
	case api.FUser:
		w.Put("create", "user", d.To)
	}
	w.Put(";")
}

// droppedWord returns the word for the kind of what is dropped.
func droppedWord(o api.Object) string {
	if o.Kind == api.OProc && o.Unit[0].Subs[0].Fun {
		return "function"
	}
	return kinds()[o.Kind-1]
}

// grant writes what follows grant or revoke. A word stands ahead of the user.
func (w *writer) grant(d api.Def, word string) {
	w.Put(rights()[d.Right-1], "on")
	w.Path(d.Path)
	w.Put(word, d.To)
}

// object writes an object, with its semicolon.
func (w *writer) object(o api.Object) {
	path := []string{o.Name}
	if o.Owner != "" {
		path = []string{o.Owner, o.Name}
	}
	w.PutIf(len(o.Unit) > 0 && o.Unit[0].Invoker, "invoker")
	if o.Kind == api.OProc {
		w.sub(o.Unit[0].Subs[0], path)
		return
	}
	w.Put(kinds()[o.Kind-1])
	w.Path(path)
	switch o.Kind {
	case api.OTable:
		w.table(o.Table[0])
	case api.OView:
		w.Put("as")
		w.Query(o.View[0])
	case api.OIndex:
		w.Put("on")
		w.Path(o.Index[0].On)
		w.names(o.Index[0].Cols)
	case api.OSerial:
		w.serial(o.Serial[0])
	case api.OPackage:
		w.pack(o.Unit[0])
	case api.OTrigger:
		w.trigger(o.Unit[0])
		return // its block has a semicolon of its own
	}
	w.Put(";")
}

// names writes names in brackets.
func (w *writer) names(l []string) {
	w.Put("(")
	grammar.WriteList(&w.Writer, l, func(s string) { w.Put(s) })
	w.Put(")")
}

func (w *writer) table(t api.Table) {
	w.Put("(")
	grammar.WriteList(&w.Writer, t.Cols, w.column)
	for _, c := range t.Cons {
		w.Put(",", "constraint", c.Name)
		w.constraint(c)
	}
	w.Put(")")
}

func (w *writer) column(c api.Column) {
	w.Put(c.Name)
	w.base(c.Type)
	for _, e := range c.Default {
		w.Put("default")
		w.Operand(e)
	}
	w.PutIf(c.NotNull, "not", "null")
}

// constraint writes what follows the name of one.
func (w *writer) constraint(c api.Constraint) {
	switch c.Op {
	case api.KUnique:
		w.Put("unique")
		w.names(c.Cols)
	case api.KPrimary:
		w.Put("primary", "key")
		w.names(c.Cols)
	case api.KForeign:
		w.Put("foreign", "key")
		w.names(c.Cols)
		w.Put("references")
		w.Path(c.Table)
	case api.KCheck:
		w.Put("check")
		w.List(c.Expr)
	}
	w.PutIf(c.Late, "deferred")
}

func (w *writer) serial(s api.Serial) {
	w.Put("start")
	w.number(s.Start)
	w.Put("by")
	w.number(s.By)
	w.Put("cache")
	w.Integer(s.Cache)
}

func (w *writer) number(n int) {
	w.PutIf(n < 0, "-")
	w.Integer(max(n, -n))
}

func (w *writer) pack(u api.Unit) {
	w.Put("is")
	w.decls(u.Decls)
	for _, s := range u.Subs {
		w.PutIf(s.Private, "private")
		w.sub(s, []string{s.Name})
	}
	w.Put("end")
}

func (w *writer) trigger(u api.Unit) {
	g := u.On[0]
	w.PutIf(g.Before, "before")
	w.PutIf(!g.Before, "after")
	for i, v := range g.Events {
		w.PutIf(i > 0, "or")
		w.event(v)
	}
	w.Put("on")
	w.Path(g.On)
	w.PutIf(g.Each, "for", "each", "row")
	for _, e := range g.When {
		w.Put("when")
		w.List([]api.Expr{e})
	}
	w.block(u.Subs[0].Block)
}

func (w *writer) event(v api.Event) {
	switch v.Op {
	case api.CInsert:
		w.Put("insert")
	case api.CUpdate:
		w.Put("update")
	case api.CDelete:
		w.Put("delete")
	}
	w.PutIf(len(v.Cols) > 0, "of")
	grammar.WriteList(&w.Writer, v.Cols, func(s string) { w.Put(s) })
}
