package unit

import (
	"slices"

	"justiciar/api"
	"justiciar/grammar"
	"justiciar/list"
	"justiciar/part"
)

// How much there may be.
const (
	maxNodes    = 4000 // of a block, a unit or a definition
	maxHandlers = 20   // of a block
	maxNames    = 20   // of a handler
	maxRow      = 50   // statements in a row
	maxItems    = 100  // of a script
)

// flawOf returns ErrLimit, if something is not right, or has too many parts, or one that is not right, or else ErrDeep, if it has too many levels. A closure shows its parts.
func flawOf(right bool, show func(look part.Looker) bool) api.Errno {
	count, deep := 0, false
	fits := right && show(func(p part.Part) bool {
		many, code := flawOfPart(p)
		count += many
		deep = deep || code == api.ErrDeep
		return code != api.ErrLimit && count <= maxNodes
	})
	switch {
	case !fits:
		return api.ErrLimit
	case deep:
		return api.ErrDeep
	}
	return api.OK
}

func flawOfBlock(b *api.Block) api.Errno {
	return flawOf(rightBlock(b), func(look part.Looker) bool { return look.Block(b, 1) })
}

func flawOfUnit(k api.ObjKind, name string, u *api.Unit) api.Errno {
	return flawOf(rightUnit(k, name, u), func(look part.Looker) bool { return look.Unit(u) })
}

// flawOfDef looks at the parts of an object that is made alone: others just say which one they mean.
func flawOfDef(d *api.Def) api.Errno {
	return flawOf(rightDef(*d), func(look part.Looker) bool { return d.Op != api.FCreate || look.Object(&d.Object) })
}

// flawOfItem returns ErrLimit unless there is just one of what an item may be.
func flawOfItem(x *Item) api.Errno {
	if !grammar.IsPosition(x.Line, x.Col) || len(x.Block)+len(x.Query)+len(x.Change)+len(x.Def) != 1 {
		return api.ErrLimit
	}
	if len(x.Block) == 1 {
		return flawOfBlock(&x.Block[0])
	}
	if len(x.Def) == 1 {
		return flawOfDef(&x.Def[0])
	}
	return flawOf(true, func(look part.Looker) bool {
		return list.Each(x.Query, look.Query) && list.Each(x.Change, look.Change)
	})
}

// flawOfPart returns for how many nodes a part counts, and its flaw, whatever the parts within it are.
func flawOfPart(p part.Part) (int, api.Errno) {
	switch {
	case p.Stmt != nil && !rightStmt(*p.Stmt), p.Decl != nil && !rightDecl(p.Decl), p.Handler != nil && !rightHandler(p.Handler), p.Sub != nil && !rightSub(p.Sub):
		return 1, api.ErrLimit
	case p.Level > api.MaxNest:
		return 1, api.ErrDeep
	case p.Node != grammar.Node{}:
		return grammar.Flaw(p.Node)
	}
	return 1, api.OK
}

// isAmong reports whether a number is one of 1 to most.
func isAmong(n, most int) bool { return 1 <= n && n <= most }

func isBase(k api.Kind) bool { return k == api.VInt || k == api.VText || k == api.VBool }

func rightBlock(b *api.Block) bool {
	return len(b.Decls) <= api.MaxVars && len(b.Body) <= maxRow && len(b.When) <= maxHandlers
}

func rightHandler(h *api.Handler) bool {
	return grammar.IsPosition(h.Line, h.Col) && grammar.IsPath(h.Names, maxNames) && len(h.Body) <= maxRow
}

func rightDecl(d *api.Decl) bool {
	if !grammar.IsPosition(d.Line, d.Col) || !grammar.IsName(&d.Name) {
		return false
	}
	switch d.Op {
	case api.DVar:
		return isBase(d.Type.Base) && len(d.Init) <= 1 && (len(d.Init) == 0 || !d.Type.Array) && len(d.Query) == 0
	case api.DCursor:
		return len(d.Query) == 1 && len(d.Init) == 0 && d.Type == api.Type{}
	case api.DExc:
		return len(d.Query) == 0 && len(d.Init) == 0 && d.Type == api.Type{}
	}
	return false
}

func rightSub(s *api.Sub) bool {
	ret := s.Ret == api.Type{}
	if s.Fun {
		ret = isBase(s.Ret.Base) && !s.Ret.Array
	}
	return ret && grammar.IsPosition(s.Line, s.Col) && grammar.IsName(&s.Name) &&
		len(s.Params) <= api.MaxParams && list.Each(s.Params, rightParam) && rightBlock(&s.Block)
}

func rightParam(p *api.Param) bool {
	return grammar.IsPosition(p.Line, p.Col) && grammar.IsName(&p.Name) && isBase(p.Type.Base) &&
		slices.Contains([]api.Mode{api.In, api.Out, api.InOut}, p.Mode)
}

// rightUnit reports whether a unit is one of a kind and name, whatever its parts are.
func rightUnit(k api.ObjKind, name string, u *api.Unit) bool {
	switch k {
	case api.OProc:
		return len(u.Decls) == 0 && len(u.On) == 0 && len(u.Subs) == 1 && u.Subs[0].Name == name && !u.Subs[0].Private
	case api.OPackage:
		return len(u.Decls) <= api.MaxVars && len(u.On) == 0 && len(u.Subs) <= api.MaxSubs
	case api.OTrigger:
		return !u.Invoker && len(u.Decls) == 0 && len(u.On) == 1 && rightTrigger(&u.On[0]) && len(u.Subs) == 1 && isOfTrigger(&u.Subs[0], name)
	}
	return false
}

// isOfTrigger reports whether a sub has a name and a block alone.
func isOfTrigger(s *api.Sub, name string) bool {
	return s.Name == name && !s.Fun && len(s.Params) == 0 && !s.Auto && !s.Private
}

func rightTrigger(g *api.Trigger) bool {
	return isAmong(len(g.Events), api.MaxCols) && list.Each(g.Events, rightEvent) && grammar.IsPath(g.On, 2) &&
		len(g.When) <= 1 && (g.Each || len(g.When) == 0)
}

func rightEvent(v *api.Event) bool {
	switch v.Op {
	case api.CInsert, api.CDelete:
		return len(v.Cols) == 0
	case api.CUpdate:
		return len(v.Cols) == 0 || grammar.IsPath(v.Cols, api.MaxCols)
	}
	return false
}
