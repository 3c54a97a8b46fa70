package check

import (
	"slices"

	"justiciar/api"
	"justiciar/fault"
	"justiciar/object"
)

// name returns the value or array that a name in an expression means.
func (p place) name(e *api.Expr) thing {
	t, code := p.mean(e)
	want(code == api.OK, fault.Expr(code, e))
	return t
}

// mean returns the value or array that a name in an expression means, or its error.
func (p place) mean(e *api.Expr) (thing, api.Errno) {
	if e.Text == ":" {
		return p.column(e.Path)
	}
	t, code := p.find(e.Path)
	if code == api.OK && t.sort != aValue {
		return thing{}, api.ErrKind
	}
	return t, code
}

// column returns what a path means as that of a column of :new or :old.
func (p place) column(path []string) (thing, api.Errno) {
	at := slices.IndexFunc(p.row, func(col api.Named) bool { return col.Name == path[1] })
	if at < 0 {
		return thing{}, api.ErrName
	}
	t := fixed(p.row[at].Type)
	t.set = path[0] == "new" && p.trigger.Before
	return t, api.OK
}

// find returns what a path means: within the program, or else as a part of an object. Objects themselves are no things of a program.
func (p place) find(path []string) (thing, api.Errno) {
	if t, ok := p.names.find(path[0]); ok {
		return t.part(path[1:])
	}
	if t, ok := ofException(path); ok {
		return t, api.OK
	}
	if t, ok := p.member(path); ok {
		return t, api.OK
	}
	if object.Mean(p.c, p.owner, path) != nil {
		return thing{}, api.ErrKind
	}
	return thing{}, api.ErrName
}

// part returns what a path means whose first name means a thing, and which goes on with more names.
func (t thing) part(rest []string) (thing, api.Errno) {
	switch {
	case len(rest) == 0:
		return t, api.OK
	case len(rest) > 1:
		return thing{}, api.ErrKind
	case t.sort == aRecord:
		return t.column(rest[0])
	case t.isArray() && rest[0] == "size":
		return asked(api.VInt), api.OK
	}
	return thing{}, api.ErrKind
}

// column returns what the name of a column means in a record.
func (t thing) column(name string) (thing, api.Errno) {
	var l []thing
	for _, col := range t.cols {
		if col.Name == name {
			l = append(l, fixed(col.Type))
		}
	}
	switch len(l) {
	case 0:
		return thing{}, api.ErrName
	case 1:
		return l[0], api.OK
	}
	return thing{}, api.ErrTwice
}

// ofException returns what a path means as what is known of the exception that is handled.
func ofException(path []string) (thing, bool) {
	if len(path) == 1 {
		switch path[0] {
		case "sqlcode":
			return fixed(api.VInt), true
		case "sqlname":
			return fixed(api.VText), true
		}
	}
	return thing{}, false
}

// member returns what the last name of a path means in the package or sequence that the names before it mean.
func (p place) member(path []string) (thing, bool) {
	name := path[len(path)-1]
	o := object.Mean(p.c, p.owner, path[:len(path)-1])
	switch {
	case o == nil:
		return thing{}, false
	case o.Kind == api.OPackage:
		return ofPackage(&o.Unit[0], name)
	case o.Kind == api.OSerial && (name == "nextval" || name == "currval"):
		return asked(api.VInt), true
	}
	return thing{}, false
}

// ofPackage returns what a name means in a package for others.
func ofPackage(u *api.Unit, name string) (thing, bool) {
	for i := range u.Decls {
		if d := &u.Decls[i]; d.Name == name {
			return declared(d), true
		}
	}
	for i := range u.Subs {
		if s := &u.Subs[i]; s.Name == name && !s.Private {
			return subOf(s), true
		}
	}
	return thing{}, false
}

// declared returns the thing that a declaration makes, but for the columns of a cursor.
func declared(d *api.Decl) thing {
	switch d.Op {
	case api.DVar:
		return variable(d.Type, true)
	case api.DCursor:
		return thing{sort: aCursor}
	}
	return thing{sort: anException}
}

// called returns the sub that a path means: of the program, or else a procedure or function of the catalog, or else one of a package.
func (p place) called(path []string) (*api.Sub, api.Errno) {
	if t, ok := p.names.find(path[0]); ok {
		return t.called(len(path) == 1)
	}
	if o := object.Mean(p.c, p.owner, path); o != nil {
		if o.Kind != api.OProc {
			return nil, api.ErrKind
		}
		return &o.Unit[0].Subs[0], api.OK
	}
	if t, ok := p.member(path); ok {
		return t.called(true)
	}
	if _, ok := ofException(path); ok {
		return nil, api.ErrKind
	}
	return nil, api.ErrName
}

// called returns the sub that a thing is, if a path means that itself.
func (t thing) called(itself bool) (*api.Sub, api.Errno) {
	if !itself || t.sort != aSub {
		return nil, api.ErrKind
	}
	return t.sub, api.OK
}

// array returns the array of the program that a path means.
func (p place) array(path []string) (thing, bool) {
	if len(path) != 1 {
		return thing{}, false
	}
	t, ok := p.names.find(path[0])
	return t, ok && t.isArray()
}

// cursor returns the cursor that a name means, or its error.
func (p place) cursor(name string) (thing, api.Errno) {
	t, code := p.find([]string{name})
	if code == api.OK && t.sort != aCursor {
		return thing{}, api.ErrKind
	}
	return t, code
}
