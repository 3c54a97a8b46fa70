package unit

import (
	"justiciar/api"
	"justiciar/grammar"
	"justiciar/list"
)

// How much an object may have.
const (
	maxCons  = 10 // constraints
	maxKeys  = 8  // columns of a constraint or index
	maxCache = 100
)

// rightDef reports whether a definition has what its Op wants, and nothing else, whatever the parts within it are. What has been looked at is emptied: then all the rest has to be empty, too.
func rightDef(d api.Def) bool {
	ok := grammar.IsPosition(d.Line, d.Col)
	switch d.Op {
	case api.FCreate:
		ok = ok && rightObject(d.Object) && (!d.Replace || isReplaceable(d.Object.Kind))
		d.Object, d.Replace = api.Object{}, false
	case api.FDrop:
		ok = ok && grammar.IsPath(d.Path, 2) && rightDropped(&d.Object)
		d.Object, d.Path = api.Object{}, nil
	case api.FAdd:
		ok = ok && grammar.IsPath(d.Path, 2) && rightAdded(&d.Object)
		d.Object, d.Path = api.Object{}, nil
	case api.FGrant, api.FRevoke:
		ok = ok && grammar.IsPath(d.Path, 2) && isAmong(int(d.Right), len(rights())) && (d.To == "all" || grammar.IsName(&d.To))
		d.Path, d.Right, d.To = nil, 0, ""
	case api.FUser:
		ok = ok && grammar.IsName(&d.To)
		d.To = ""
	default:
		return false
	}
	return ok && SameDef(d, api.Def{Op: d.Op})
}

func isReplaceable(k api.ObjKind) bool {
	return k == api.OView || k == api.OProc || k == api.OPackage || k == api.OTrigger
}

// rightDropped reports whether an object says which kind is dropped, and nothing else.
func rightDropped(o *api.Object) bool {
	want := api.Object{Kind: o.Kind}
	if o.Kind == api.OProc {
		if len(o.Unit) != 1 || len(o.Unit[0].Subs) != 1 {
			return false
		}
		s := o.Unit[0].Subs[0]
		if s.Line != 0 || s.Col != 0 {
			return false
		}
		want.Unit = droppedSub(s.Fun)
	}
	return isAmong(int(o.Kind), int(api.OTrigger)) && sameObject(*o, want)
}

// droppedSub returns the unit that says whether a procedure or a function is dropped.
func droppedSub(fun bool) []api.Unit { return []api.Unit{{Subs: []api.Sub{{Fun: fun}}}} }

// rightAdded reports whether an object says which column a table gets, and nothing else.
func rightAdded(o *api.Object) bool {
	if len(o.Table) != 1 || len(o.Table[0].Cols) != 1 {
		return false
	}
	c := o.Table[0].Cols[0]
	return grammar.IsName(&c.Name) && isBase(c.Type) && sameObject(*o, added(c.Name, c.Type))
}

// added returns the object that says which column a table gets.
func added(name string, k api.Kind) api.Object {
	return api.Object{Kind: api.OTable, Table: []api.Table{{Cols: []api.Column{{Name: name, Type: k}}}}}
}

// rightObject reports whether an object has what its Kind wants, and nothing else, whatever the parts within it are.
func rightObject(o api.Object) bool {
	if o.Owner != "" && !grammar.IsName(&o.Owner) || !grammar.IsName(&o.Name) {
		return false
	}
	ok := false
	switch o.Kind {
	case api.OTable:
		ok = len(o.Table) == 1 && rightTable(&o.Table[0])
		o.Table = nil
	case api.OView:
		ok = grammar.IsInner(o.View)
		o.View = nil
	case api.OIndex:
		ok = len(o.Index) == 1 && grammar.IsPath(o.Index[0].On, 2) && areKeys(o.Index[0].Cols)
		o.Index = nil
	case api.OSerial:
		ok = len(o.Serial) == 1 && rightSerial(o.Serial[0])
		o.Serial = nil
	case api.OProc, api.OPackage, api.OTrigger:
		ok = len(o.Unit) == 1 && rightUnit(o.Kind, o.Name, &o.Unit[0])
		o.Unit = nil
	}
	return ok && sameObject(o, api.Object{Owner: o.Owner, Name: o.Name, Kind: o.Kind})
}

func rightSerial(s api.Serial) bool {
	return isInteger(s.Start) && isInteger(s.By) && s.By != 0 && isAmong(s.Cache, maxCache)
}

func isInteger(n int) bool { return -api.MaxInt <= n && n <= api.MaxInt }

// areKeys reports whether names are those of an index or constraint.
func areKeys(l []string) bool {
	return grammar.IsPath(l, maxKeys) && areDifferent(l, func(s *string) string { return *s })
}

// areDifferent reports whether a closure finds a different name for each element of a list.
func areDifferent[T any](l []T, nameOf func(x *T) string) bool {
	seen := map[string]bool{}
	return list.Each(l, func(x *T) bool {
		name := nameOf(x)
		first := !seen[name]
		seen[name] = true
		return first
	})
}

func rightTable(t *api.Table) bool {
	return isAmong(len(t.Cols), api.MaxCols) && list.Each(t.Cols, rightColumn) && areDifferent(t.Cols, func(c *api.Column) string { return c.Name }) &&
		len(t.Cons) <= maxCons && areDifferent(t.Cons, func(c *api.Constraint) string { return c.Name }) && hasOnePrimary(t) &&
		list.Each(t.Cons, func(c *api.Constraint) bool { return grammar.IsName(&c.Name) && rightConstraint(c, t) })
}

func rightColumn(c *api.Column) bool {
	return grammar.IsName(&c.Name) && isBase(c.Type) && len(c.Default) <= 1
}

// hasOnePrimary reports whether a table has no second primary key.
func hasOnePrimary(t *api.Table) bool {
	count := 0
	return list.Each(t.Cons, func(c *api.Constraint) bool {
		if c.Op == api.KPrimary {
			count++
		}
		return count <= 1
	})
}

// rightConstraint reports whether a constraint of a table has what its Op wants, and nothing else.
func rightConstraint(c *api.Constraint, t *api.Table) bool {
	switch c.Op {
	case api.KUnique, api.KPrimary:
		return areKeys(c.Cols) && hasAll(t, c.Cols) && len(c.Table) == 0 && len(c.Expr) == 0
	case api.KForeign:
		return areKeys(c.Cols) && hasAll(t, c.Cols) && grammar.IsPath(c.Table, 2) && len(c.Expr) == 0
	case api.KCheck:
		return len(c.Cols) == 0 && len(c.Table) == 0 && len(c.Expr) == 1
	}
	return false
}

// hasAll reports whether a table has all columns.
func hasAll(t *api.Table, cols []string) bool {
	return list.Each(cols, func(name *string) bool {
		return !list.Each(t.Cols, func(c *api.Column) bool { return c.Name != *name })
	})
}
