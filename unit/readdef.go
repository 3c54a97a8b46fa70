package unit

import (
	"slices"

	"justiciar/api"
	"justiciar/grammar"
)

// def reads a definition, with its semicolon.
func (r reader) def() api.Def {
	t := r.Want("create", "drop", "alter", "grant", "revoke")
	d := api.Def{Line: t.Line, Col: t.Col}
	switch t.Text {
	case "create":
		r.create(&d)
		return d
	case "drop":
		d.Op = api.FDrop
		d.Object = r.dropped()
		d.Path = r.Path(2)
	case "alter":
		d.Op = api.FAdd
		r.Want("table")
		d.Path = r.Path(2)
		r.Want("add")
		d.Object = r.added()
	case "grant":
		d.Op = api.FGrant
		r.grant(&d, "to")
	case "revoke":
		d.Op = api.FRevoke
		r.grant(&d, "from")
	}
	r.Want(";")
	return d
}

// rights returns the words for rights, in api's order.
func rights() []string { return []string{"select", "insert", "update", "delete", "execute"} }

// kinds returns the words for kinds of objects, in api's order; procedures stand for functions, too.
func kinds() []string {
	return []string{"table", "view", "index", "sequence", "procedure", "package", "trigger"}
}

// grant reads what follows grant or revoke. A word stands ahead of the user.
func (r reader) grant(d *api.Def, word string) {
	right := r.Want(rights()...).Text
	d.Right = api.Right(slices.Index(rights(), right) + 1)
	r.Want("on")
	d.Path = r.Path(2)
	r.Want(word)
	if r.Take("all") {
		d.To = "all"
		return
	}
	d.To = r.Name()
}

// dropped reads the kind of what is dropped.
func (r reader) dropped() api.Object {
	word := r.Want(append(kinds(), "function")...).Text
	switch word {
	case "procedure", "function":
		return api.Object{Kind: api.OProc, Unit: droppedSub(word == "function")}
	}
	return api.Object{Kind: kindOf(word)}
}

func kindOf(word string) api.ObjKind { return api.ObjKind(slices.Index(kinds(), word) + 1) }

// added reads the column that a table gets.
func (r reader) added() api.Object {
	name := r.Name()
	return added(name, r.base())
}

// create reads what follows its word.
func (r reader) create(d *api.Def) {
	if r.Take("user") {
		d.Op, d.To = api.FUser, r.Name()
		r.Want(";")
		return
	}
	d.Op = api.FCreate
	if r.Take("or") {
		r.Want("replace")
		d.Replace = true
	}
	d.Object = r.object(d.Replace)
}

// object reads an object, with its semicolon; one of those that can be replaced, if that is wanted.
func (r reader) object(replace bool) api.Object {
	var o api.Object
	invoker := r.Take("invoker")
	if r.Stands("procedure") || r.Stands("function") {
		s := r.sub(func() string {
			r.title(&o)
			return o.Name
		})
		o.Kind, o.Unit = api.OProc, []api.Unit{{Invoker: invoker, Subs: []api.Sub{s}}}
		return o
	}
	first := r.Want(others(invoker, replace)...)
	o.Kind = kindOf(first.Text)
	r.title(&o)
	switch o.Kind {
	case api.OTable:
		o.Table = []api.Table{ended(r, r.table)}
	case api.OView:
		o.View = []api.Query{ended(r, r.view)}
	case api.OIndex:
		o.Index = []api.Index{ended(r, r.index)}
	case api.OSerial:
		o.Serial = []api.Serial{ended(r, r.serial)}
	case api.OPackage:
		o.Unit = []api.Unit{ended(r, r.pack)}
		o.Unit[0].Invoker = invoker
	case api.OTrigger:
		o.Unit = []api.Unit{r.trigger(o.Name, first)}
	}
	return o
}

// others returns the words for kinds of objects that may stand where an object begins, but for subs.
func others(invoker, replace bool) []string {
	switch {
	case invoker:
		return []string{"package"}
	case replace:
		return []string{"view", "package", "trigger"}
	}
	return []string{"table", "view", "index", "sequence", "package", "trigger"}
}

// title reads an object's path.
func (r reader) title(o *api.Object) {
	path := r.Path(2)
	o.Name = path[len(path)-1]
	if len(path) == 2 {
		o.Owner = path[0]
	}
}

func (r reader) table() api.Table {
	var t api.Table
	r.inBrackets(func() {
		if r.Take("constraint") {
			t.Cons = append(t.Cons, r.constraint())
		} else {
			t.Cols = append(t.Cols, r.column())
		}
	})
	return t
}

// inBrackets reads a list in brackets, each element by a closure.
func (r reader) inBrackets(read func()) {
	r.Want("(")
	read()
	for r.Take(",") {
		read()
	}
	r.Want(")")
}

// names reads names in brackets.
func (r reader) names() []string {
	var l []string
	r.inBrackets(func() { l = append(l, r.Name()) })
	return l
}

func (r reader) column() api.Column {
	c := api.Column{Name: r.Name(), Type: r.base()}
	if r.Take("default") {
		c.Default = []api.Expr{r.Sum()}
	}
	if r.Take("not") {
		r.Want("null")
		c.NotNull = true
	}
	return c
}

// constraint reads what follows its word.
func (r reader) constraint() api.Constraint {
	c := api.Constraint{Name: r.Name()}
	switch r.Want("unique", "primary", "foreign", "check").Text {
	case "unique":
		c.Op, c.Cols = api.KUnique, r.names()
	case "primary":
		r.Want("key")
		c.Op, c.Cols = api.KPrimary, r.names()
	case "foreign":
		r.Want("key")
		c.Op, c.Cols = api.KForeign, r.names()
		r.Want("references")
		c.Table = r.Path(2)
	case "check":
		c.Op, c.Expr = api.KCheck, []api.Expr{r.bracketed()}
	}
	c.Late = r.Take("deferred")
	return c
}

// bracketed reads an expression in brackets.
func (r reader) bracketed() api.Expr {
	r.Want("(")
	e := r.Expr()
	r.Want(")")
	return e
}

func (r reader) view() api.Query {
	r.Want("as")
	return r.Query()
}

func (r reader) index() api.Index {
	r.Want("on")
	return api.Index{On: r.Path(2), Cols: r.names()}
}

func (r reader) serial() api.Serial {
	var s api.Serial
	r.Want("start")
	s.Start = r.number()
	r.Want("by")
	s.By = r.number()
	r.Want("cache")
	s.Cache = r.Integer()
	return s
}

func (r reader) number() int {
	if r.Take("-") {
		return -r.Integer()
	}
	return r.Integer()
}

func (r reader) pack() api.Unit {
	var u api.Unit
	r.Want("is")
	for {
		switch {
		case r.beginsDecl():
			u.Decls = append(u.Decls, r.decl())
		case r.Stands("private"), r.Stands("procedure"), r.Stands("function"):
			private := r.Take("private")
			s := r.sub(r.Name)
			s.Private = private
			u.Subs = append(u.Subs, s)
		default:
			r.Want("end")
			return u
		}
	}
}

// trigger reads what follows the path of a trigger, with the semicolon of its block. Its sub has the position of its first token.
func (r reader) trigger(name string, first api.Token) api.Unit {
	g := api.Trigger{Before: r.Want("before", "after").Text == "before", Events: []api.Event{r.event()}}
	for r.Take("or") {
		g.Events = append(g.Events, r.event())
	}
	r.Want("on")
	g.On = r.Path(2)
	if r.Take("for") {
		r.Want("each")
		r.Want("row")
		g.Each = true
		if r.Take("when") {
			g.When = []api.Expr{r.bracketed()}
		}
	}
	s := api.Sub{Name: name, Block: r.block(), Line: first.Line, Col: first.Col}
	return api.Unit{On: []api.Trigger{g}, Subs: []api.Sub{s}}
}

func (r reader) event() api.Event {
	switch r.Want("insert", "update", "delete").Text {
	case "insert":
		return api.Event{Op: api.CInsert}
	case "delete":
		return api.Event{Op: api.CDelete}
	}
	v := api.Event{Op: api.CUpdate}
	if r.Take("of") {
		v.Cols = grammar.ReadList(r.Reader, r.Name)
	}
	return v
}
