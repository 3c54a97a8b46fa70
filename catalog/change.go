package catalog

import (
	"cmp"
	"slices"

	"justiciar/api"
	"justiciar/clone"
	"justiciar/object"
	"justiciar/unit"
)

// Do returns the catalog after a definition.
func Do(c api.Catalog, user string, d api.Def) (after api.Catalog, code api.Errno) {
	if !isValid(&c) || !slices.Contains(c.Users, user) || !unit.ValidDef(d) {
		return api.Catalog{}, api.ErrArg
	}
	defer func() {
		if raised := recover(); raised != nil {
			after, code = api.Catalog{}, codeOf(raised)
		}
	}()
	d.Object = clone.Object(d.Object)
	x := change{clone.Catalog(c), user}
	x.do(&d)
	return x.Catalog, api.OK
}

// change is the catalog that a definition of a user makes.
type change struct {
	api.Catalog
	user string
}

// refusal is the error with which a definition is refused.
type refusal struct{ code api.Errno }

func codeOf(raised any) api.Errno {
	switch x := raised.(type) {
	case refusal:
		return x.code
	default: // nothing else is raised, but Do must not panic
		return api.ErrArg
	}
}

// want refuses the definition with an error, unless something is as it should be.
func want(ok bool, code api.Errno) {
	if !ok {
		panic(refusal{code})
	}
}

func (x *change) do(d *api.Def) {
	want(x.Stamp < api.MaxInt, api.ErrLimit)
	x.Stamp++
	switch d.Op {
	case api.FCreate:
		x.create(d.Object, d.Replace)
	case api.FDrop:
		x.drop(x.mean(d.Path), &d.Object)
	case api.FAdd:
		x.add(x.mean(d.Path), d.Object.Table[0].Cols[0])
	case api.FGrant:
		x.grant(x.grantOf(d))
	case api.FRevoke:
		x.revoke(x.grantOf(d))
	case api.FUser:
		x.addUser(d.To)
	}
}

// mean returns the object that a path means, or nil.
func (x *change) mean(path []string) *api.Object { return object.Mean(&x.Catalog, x.user, path) }

// create makes an object, perhaps in place of another one.
func (x *change) create(o api.Object, replace bool) {
	if o.Owner == "" {
		o.Owner = x.user
	}
	key := object.Key(&o)
	old := object.Find(&x.Catalog, key)
	want(slices.Contains(x.Users, o.Owner), api.ErrName)
	want(old == nil || replace && old.Kind == o.Kind, api.ErrTwice)
	want(old != nil || len(x.Objects) < api.MaxObjects, api.ErrLimit)
	x.settle(&o)
	o.Stamp, o.Valid = x.Stamp, true
	if old != nil {
		*old = o
	} else {
		x.Objects = inserted(x.Objects, o, compareObjects)
	}
	x.stale(key) // all that hung on what was replaced hangs on this, too: the paths to it are those of others
}

// inserted returns a list that rises with one element more.
func inserted[T any](l []T, x T, compare func(a, b T) int) []T {
	at, _ := slices.BinarySearchFunc(l, x, compare)
	return slices.Insert(l, at, x)
}

// settle gives the paths of the tables that an object is made for their owners, if these are such tables as it needs.
func (x *change) settle(o *api.Object) {
	for _, path := range tablesOf(o) {
		key := object.KeyOf(x.user, *path)
		*path = key[:]
	}
	for _, index := range o.Index {
		t := x.table(index.On, o)
		want(t != nil && hasAll(t, index.Cols), api.ErrName)
	}
	for _, u := range o.Unit {
		for _, trigger := range u.On {
			want(x.table(trigger.On, o) != nil, api.ErrName)
		}
	}
	for i := range o.Table {
		for _, con := range o.Table[i].Cons {
			want(con.Op != api.KForeign || isKey(x.table(con.Table, o), kindsOf(&o.Table[i], con.Cols)), api.ErrName)
		}
	}
}

// table returns the table that a path of two names means, which may be the one that is made, or nil.
func (x *change) table(path []string, made *api.Object) *api.Table {
	key := object.KeyOf("", path)
	o := made
	if key != object.Key(made) {
		o = object.Find(&x.Catalog, key)
	}
	if o == nil || o.Kind != api.OTable {
		return nil
	}
	return &o.Table[0]
}

// isKey reports whether there is a table whose primary key has columns of these kinds.
func isKey(t *api.Table, kinds []api.Kind) bool {
	if t == nil {
		return false
	}
	at := slices.IndexFunc(t.Cons, func(con api.Constraint) bool { return con.Op == api.KPrimary })
	return at >= 0 && slices.Equal(kindsOf(t, t.Cons[at].Cols), kinds)
}

func hasAll(t *api.Table, names []string) bool { return !slices.Contains(kindsOf(t, names), api.VNull) }

// kindsOf returns the kinds of a table's columns, VNull for those that it does not have.
func kindsOf(t *api.Table, names []string) []api.Kind {
	var l []api.Kind
	for _, name := range names {
		at := slices.IndexFunc(t.Cols, func(c api.Column) bool { return c.Name == name })
		if at < 0 {
			l = append(l, api.VNull)
		} else {
			l = append(l, t.Cols[at].Type)
		}
	}
	return l
}

// stale makes the views and programs that hang on some objects not Valid.
func (x *change) stale(keys ...[2]string) {
	for _, key := range linksOf(&x.Catalog).turned().from(keys...) {
		if o := object.Find(&x.Catalog, key); isRenewed(o.Kind) {
			o.Valid = false
		}
	}
}

// drop takes an object away, if it is of the kind that another one says.
func (x *change) drop(o, like *api.Object) {
	want(o != nil, api.ErrNone)
	want(o.Kind == like.Kind && (o.Kind != api.OProc || o.Unit[0].Subs[0].Fun == like.Unit[0].Subs[0].Fun), api.ErrKind)
	gone := [][2]string{object.Key(o)}
	if o.Kind == api.OTable {
		for _, other := range x.madeFor(o) {
			want(other.Kind != api.OTable, api.ErrUsed)
			gone = append(gone, object.Key(other))
		}
	}
	x.remove(gone...)
}

// madeFor returns the other objects that are made for a table: tables with foreign keys to it, and its indexes and triggers.
func (x *change) madeFor(o *api.Object) []*api.Object {
	isIt := func(path *[]string) bool { return object.KeyOf("", *path) == object.Key(o) }
	var l []*api.Object
	for i := range x.Objects {
		if other := &x.Objects[i]; other != o && slices.ContainsFunc(tablesOf(other), isIt) {
			l = append(l, other)
		}
	}
	return l
}

// remove takes objects away, with all rights to them.
func (x *change) remove(keys ...[2]string) {
	x.stale(keys...)
	x.Objects = slices.DeleteFunc(x.Objects, func(o api.Object) bool { return slices.Contains(keys, object.Key(&o)) })
	x.Grants = slices.DeleteFunc(x.Grants, func(g api.Grant) bool { return slices.Contains(keys, keyOfGrant(g)) })
}

// add gives a table a column more.
func (x *change) add(o *api.Object, c api.Column) {
	want(o != nil && o.Kind == api.OTable, api.ErrNone)
	t := &o.Table[0]
	want(!hasAll(t, []string{c.Name}), api.ErrTwice)
	want(len(t.Cols) < api.MaxCols, api.ErrLimit)
	t.Cols = append(t.Cols, c)
	o.Stamp = x.Stamp
	x.stale(object.Key(o))
}

// grantOf returns the right that a definition grants or revokes.
func (x *change) grantOf(d *api.Def) api.Grant {
	o := x.mean(d.Path)
	want(o != nil, api.ErrNone)
	want(o.Owner == x.user, api.ErrRights)
	return api.Grant{Right: d.Right, Owner: o.Owner, Name: o.Name, To: d.To}
}

func (x *change) grant(g api.Grant) {
	want(isReceiver(&x.Catalog, g.To), api.ErrName)
	want(g.To != g.Owner, api.ErrArg)
	want(!slices.Contains(x.Grants, g), api.ErrTwice)
	x.Grants = inserted(x.Grants, g, compareGrants)
}

func (x *change) revoke(g api.Grant) {
	at := slices.Index(x.Grants, g)
	want(at >= 0, api.ErrNone)
	x.Grants = slices.Delete(x.Grants, at, at+1)
}

func (x *change) addUser(name string) {
	want(!slices.Contains(x.Users, name), api.ErrTwice)
	want(len(x.Users) < api.MaxUsers, api.ErrLimit)
	x.Users = inserted(x.Users, name, cmp.Compare)
}
