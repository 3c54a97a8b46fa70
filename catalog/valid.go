package catalog

import (
	"cmp"
	"slices"

	"justiciar/api"
	"justiciar/expr"
	"justiciar/grammar"
	"justiciar/list"
	"justiciar/object"
	"justiciar/unit"
)

func isValid(c *api.Catalog) bool {
	return 0 <= c.Stamp && c.Stamp <= api.MaxInt && areUsers(c.Users) &&
		len(c.Objects) <= api.MaxObjects && list.Rise(c.Objects, compareObjects) && list.Each(c.Objects, func(o *api.Object) bool { return rightObject(c, o) }) &&
		list.Rise(c.Grants, compareGrants) && list.Each(c.Grants, func(g *api.Grant) bool { return rightGrant(c, g) })
}

func areUsers(l []string) bool {
	return len(l) <= api.MaxUsers && list.Rise(l, cmp.Compare) && list.Each(l, grammar.IsName)
}

func compareObjects(a, b api.Object) int { return object.Compare(object.Key(&a), object.Key(&b)) }

func compareGrants(a, b api.Grant) int {
	return cmp.Or(cmp.Compare(a.Right, b.Right), object.Compare(keyOfGrant(a), keyOfGrant(b)), cmp.Compare(a.To, b.To))
}

func rightGrant(c *api.Catalog, g *api.Grant) bool {
	return api.RSelect <= g.Right && g.Right <= api.RExecute && object.Find(c, keyOfGrant(*g)) != nil && isReceiver(c, g.To) && g.To != g.Owner
}

// isReceiver reports whether a right may be granted to somebody.
func isReceiver(c *api.Catalog, to string) bool { return to == "all" || slices.Contains(c.Users, to) }

func rightObject(c *api.Catalog, o *api.Object) bool {
	return slices.Contains(c.Users, o.Owner) && 1 <= o.Stamp && o.Stamp <= c.Stamp && (o.Valid || isRenewed(o.Kind)) &&
		!slices.ContainsFunc(tablesOf(o), func(path *[]string) bool { return len(*path) != 2 }) &&
		list.Each(o.Table, rightExprs) && unit.ValidDef(definitionOf(*o))
}

// definitionOf returns the definition that makes an object, but with constants in the place of a table's expressions: these may have more nodes altogether than a definition.
func definitionOf(o api.Object) api.Def {
	o.Stamp, o.Valid = 0, false
	o.Table = slices.Clone(o.Table)
	for i := range o.Table {
		o.Table[i] = withConstants(o.Table[i])
	}
	return api.Def{Op: api.FCreate, Object: o}
}

func withConstants(t api.Table) api.Table {
	constants := func(l []api.Expr) []api.Expr { return slices.Repeat([]api.Expr{{Op: api.EConst}}, len(l)) }
	t.Cols, t.Cons = slices.Clone(t.Cols), slices.Clone(t.Cons)
	for i := range t.Cols {
		t.Cols[i].Default = constants(t.Cols[i].Default)
	}
	for i := range t.Cons {
		t.Cons[i].Expr = constants(t.Cons[i].Expr)
	}
	return t
}

// rightExprs reports whether all expressions of a table are valid.
func rightExprs(t *api.Table) bool {
	valid := func(e *api.Expr) bool { return expr.Valid(*e) }
	return list.Each(t.Cols, func(c *api.Column) bool { return list.Each(c.Default, valid) }) &&
		list.Each(t.Cons, func(c *api.Constraint) bool { return list.Each(c.Expr, valid) })
}
