package resolve

import (
	"slices"

	"justiciar/api"
	"justiciar/catalog"
	"justiciar/clone"
	"justiciar/object"
	"justiciar/value"
)

// How much there may be.
const (
	maxBinds   = 200
	maxPath    = 60 // bytes of each string of a bind's path
	maxViews   = 3  // views within each other
	maxQueries = 5  // queries within each other
)

// resolver finds what names mean for a user.
type resolver struct {
	c     *api.Catalog
	user  string
	binds []api.Bind
	bound map[[3]string]int // which one of binds has a path
	views int               // how many views it is within
	seen  map[nested]selected
}

// nested is a view, by its owner and name, and how many views it is within.
type nested struct {
	key   [2]string
	views int
}

// selected is what a view selects, and whether it is right.
type selected struct {
	names []api.Named
	right bool
}

// newResolver returns a resolver, unless something of that is not valid.
func newResolver(c *api.Catalog, user string, binds []api.Bind) (*resolver, bool) {
	bound, ok := boundBy(binds)
	if !ok || !catalog.Valid(*c) || !slices.Contains(c.Users, user) {
		return nil, false
	}
	return &resolver{c: c, user: user, binds: binds, bound: bound, seen: map[nested]selected{}}, true
}

// boundBy returns which bind has a path, if the binds are valid.
func boundBy(binds []api.Bind) (map[[3]string]int, bool) {
	if len(binds) > maxBinds {
		return nil, false
	}
	bound := map[[3]string]int{}
	for i, b := range binds {
		if !isBind(b) {
			return nil, false
		}
		bound[asKey(b.Path)] = i
	}
	return bound, len(bound) == len(binds)
}

func isBind(b api.Bind) bool {
	isBad := func(s string) bool { return len(s) < 1 || len(s) > maxPath }
	return 1 <= len(b.Path) && len(b.Path) <= 3 && !slices.ContainsFunc(b.Path, isBad) &&
		api.VInt <= b.Type && b.Type <= api.VBool && value.Valid(b.Val) && (b.Val.Kind == api.VNull || b.Val.Kind == b.Type)
}

// asKey returns a path of at most three strings, none of them empty.
func asKey(path []string) [3]string {
	var key [3]string
	copy(key[:], path)
	return key
}

// readable returns what a path means, if that is a table or a view that is right, and all its columns, those without a name as well.
func (r *resolver) readable(path []string) (*api.Object, []api.Named, api.Errno) {
	o := object.Mean(r.c, r.user, path)
	if o == nil {
		return nil, nil, api.ErrName
	}
	if o.Kind == api.OTable {
		return o, columnsOf(o), api.OK
	}
	if o.Kind != api.OView {
		return nil, nil, api.ErrKind
	}
	view := r.view(o)
	if !view.right {
		return nil, nil, api.ErrBad
	}
	return o, view.names, api.OK
}

func columnsOf(table *api.Object) []api.Named {
	var l []api.Named
	for _, col := range table.Table[0].Cols {
		l = append(l, api.Named{Name: col.Name, Type: col.Type})
	}
	return l
}

// view returns what a view selects. Each one is looked at once for each number of views around it: in sources of sources it may stand too often to be looked at anew.
func (r *resolver) view(o *api.Object) selected {
	at := nested{object.Key(o), r.views}
	found, known := r.seen[at]
	if !known && r.views < maxViews {
		inner := &resolver{c: r.c, user: o.Owner, views: r.views + 1, seen: r.seen}
		_, f := settled(clone.Query(o.View[0]), func(q *api.Query) { found.names = inner.query(q, nil) })
		found.right = f.Code == api.OK
		r.seen[at] = found
	}
	return found
}
