package unit

import (
	"justiciar/api"
	"justiciar/grammar"
)

// writer writes what this layer adds to the grammar.
type writer struct{ grammar.Writer }

// textOf returns the string of a valid script.
func textOf(l []Item) (string, api.Errno) {
	var all []byte
	count := 0
	for _, x := range l {
		var w writer
		w.item(x)
		s, code := w.Text()
		all = append(append(all, s...), '\n')
		count += w.Count()
		if code != api.OK || len(all) > api.MaxSource || count > api.MaxTokens {
			return "", api.ErrLimit
		}
	}
	return string(all), api.OK
}

func (w *writer) item(x Item) {
	for _, b := range x.Block {
		w.block(b)
	}
	for _, q := range x.Query {
		w.Query(q)
		w.Put(";")
	}
	for _, c := range x.Change {
		w.Change(c)
		w.Put(";")
	}
	for _, d := range x.Def {
		w.def(d)
	}
}

// block writes a block, with its semicolon.
func (w *writer) block(b api.Block) {
	w.PutIf(len(b.Decls) > 0, "declare")
	w.decls(b.Decls)
	w.begun(b)
}

// begun writes a block from its begin on.
func (w *writer) begun(b api.Block) {
	w.Put("begin")
	w.stmts(b.Body)
	w.PutIf(len(b.When) > 0, "exception")
	for _, h := range b.When {
		w.Put("when")
		for i, name := range h.Names {
			w.PutIf(i > 0, "or")
			w.Put(name)
		}
		w.Put("then")
		w.stmts(h.Body)
	}
	w.Put("end", ";")
}

func (w *writer) decls(l []api.Decl) {
	for _, d := range l {
		switch d.Op {
		case api.DVar:
			w.Put(d.Name)
			w.typed(d.Type)
			w.Clause(":=", d.Init)
		case api.DCursor:
			w.Put("cursor", d.Name, "is")
			w.Query(d.Query[0])
		case api.DExc:
			w.Put(d.Name, "exception")
		}
		w.Put(";")
	}
}

func (w *writer) typed(t api.Type) {
	w.PutIf(t.Array, "array", "of")
	w.base(t.Base)
}

func (w *writer) base(k api.Kind) {
	switch k {
	case api.VInt:
		w.Put("int")
	case api.VText:
		w.Put("text")
	case api.VBool:
		w.Put("bool")
	}
}

// sub writes a procedure or function, with a path as its name.
func (w *writer) sub(s api.Sub, path []string) {
	w.PutIf(!s.Fun, "procedure")
	w.PutIf(s.Fun, "function")
	w.Path(path)
	if len(s.Params) > 0 {
		w.Put("(")
		grammar.WriteList(&w.Writer, s.Params, w.param)
		w.Put(")")
	}
	if s.Fun {
		w.Put("return")
		w.typed(s.Ret)
	}
	w.PutIf(s.Auto, "autonomous")
	w.Put("is")
	w.decls(s.Block.Decls)
	w.begun(s.Block)
}

func (w *writer) param(p api.Param) {
	w.Put(p.Name)
	w.PutIf(p.Mode != api.Out, "in")
	w.PutIf(p.Mode != api.In, "out")
	w.typed(p.Type)
}
