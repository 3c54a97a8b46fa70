package unit

import (
	"justiciar/api"
	"justiciar/grammar"
)

// reader reads what this layer adds to the grammar.
type reader struct{ *grammar.Reader }

// script reads items. The flaw of one is found as soon as it has been read.
func (r reader) script() []Item {
	var l []Item
	for r.More() {
		first := r.Next()
		read := r.itemRule()
		switch {
		case read == nil:
			r.Fail()
		case len(l) == maxItems:
			r.Refuse(first, api.ErrLimit)
		default:
			x := read()
			x.Line, x.Col = first.Line, first.Col
			r.Check(first, func() api.Errno { return flawOfItem(&x) })
			l = append(l, x)
		}
	}
	return l
}

// itemRule returns how the item is read that the next token begins; nil, if it begins none.
func (r reader) itemRule() func() Item {
	t := r.Next()
	if t.Kind != api.TokWord {
		return nil
	}
	switch t.Text {
	case "declare", "begin":
		return func() Item { return Item{Block: []api.Block{r.block()}} }
	case "select":
		return func() Item { return Item{Query: []api.Query{ended(r, r.WholeQuery)}} }
	case "insert", "update", "delete":
		return func() Item { return Item{Change: []api.Change{ended(r, r.Change)}} }
	case "create", "drop", "alter", "grant", "revoke":
		return func() Item { return Item{Def: []api.Def{r.def()}} }
	}
	return nil
}

// ended reads what a closure reads, and the semicolon behind it.
func ended[T any](r reader, read func() T) T {
	x := read()
	r.Want(";")
	return x
}

// block reads a block, with its semicolon.
func (r reader) block() api.Block {
	var b api.Block
	if r.Take("declare") {
		b.Decls = r.decls()
	}
	r.Want("begin")
	r.begun(&b)
	return b
}

// begun reads what follows a block's begin, with its semicolon.
func (r reader) begun(b *api.Block) {
	b.Body = r.stmts()
	if r.Take("exception") {
		for r.Stands("when") {
			b.When = append(b.When, r.handler())
		}
	}
	r.Want("end")
	r.Want(";")
}

func (r reader) handler() api.Handler {
	t := r.Want("when")
	h := api.Handler{Names: []string{r.Name()}, Line: t.Line, Col: t.Col}
	for r.Take("or") {
		h.Names = append(h.Names, r.Name())
	}
	r.Want("then")
	h.Body = r.stmts()
	return h
}

func (r reader) decls() []api.Decl {
	var l []api.Decl
	for r.beginsDecl() {
		l = append(l, r.decl())
	}
	return l
}

func (r reader) beginsDecl() bool { return r.Next().Kind == api.TokName || r.Stands("cursor") }

func (r reader) decl() api.Decl {
	t := r.Next()
	d := api.Decl{Line: t.Line, Col: t.Col}
	if r.Take("cursor") {
		d.Op, d.Name = api.DCursor, r.Name()
		r.Want("is")
		d.Query = []api.Query{r.WholeQuery()}
	} else {
		d.Name = r.Name()
		r.declared(&d)
	}
	r.Want(";")
	return d
}

// declared reads what follows the name of an exception or a variable.
func (r reader) declared(d *api.Decl) {
	if r.Take("exception") {
		d.Op = api.DExc
		return
	}
	d.Op, d.Type = api.DVar, r.arrayOrBase()
	if !d.Type.Array && r.Take(":=") {
		d.Init = []api.Expr{r.Expr()}
	}
}

func (r reader) arrayOrBase() api.Type {
	if r.Take("array") {
		r.Want("of")
		return api.Type{Base: r.base(), Array: true}
	}
	return api.Type{Base: r.base()}
}

func (r reader) base() api.Kind {
	switch r.Want("int", "text", "bool").Text {
	case "int":
		return api.VInt
	case "text":
		return api.VText
	}
	return api.VBool
}

// sub reads a procedure or function, whose name a closure reads.
func (r reader) sub(name func() string) api.Sub {
	t := r.Want("procedure", "function")
	s := api.Sub{Fun: t.Text == "function", Name: name(), Line: t.Line, Col: t.Col}
	if r.Take("(") {
		s.Params = grammar.ReadList(r.Reader, r.param)
		r.Want(")")
	}
	if s.Fun {
		r.Want("return")
		s.Ret.Base = r.base()
	}
	s.Auto = r.Take("autonomous")
	r.Want("is")
	s.Block.Decls = r.decls()
	r.Want("begin")
	r.begun(&s.Block)
	return s
}

func (r reader) param() api.Param {
	t := r.Next()
	return api.Param{Name: r.Name(), Mode: r.mode(), Type: r.arrayOrBase(), Line: t.Line, Col: t.Col}
}

func (r reader) mode() api.Mode {
	in := r.Take("in")
	switch out := r.Take("out"); {
	case in && out:
		return api.InOut
	case out:
		return api.Out
	}
	return api.In
}
