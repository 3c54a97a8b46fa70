package check

import (
	"slices"

	"justiciar/api"
)

// program is a program that is looked at, or a block from outside.
type program struct {
	c       *api.Catalog
	plain   api.Catalog  // the same for layer 7
	owner   string       // whose schema counts
	trigger *api.Trigger // that it is; nil for all others
	row     []api.Named  // the columns of :new and :old, if it has these
	binds   [][]api.Bind // of the queries and changes that have been looked at
}

// lookAt looks at a program with a closure, and returns the binds of its queries and changes; or nothing, and the fault that the closure raises.
func lookAt(c *api.Catalog, owner string, look func(x *program)) (binds [][]api.Bind, f api.Fault) {
	defer func() {
		if raised := recover(); raised != nil {
			binds, f = nil, faultOf(raised)
		}
	}()
	x := &program{c: c, plain: plain(c), owner: owner}
	look(x)
	return x.binds, f
}

// plain returns a catalog with empty packages in place of all programs. Layer 7 looks just for their names, but each time at whether all of the catalog is valid, and a program may have a thousand queries.
func plain(c *api.Catalog) api.Catalog {
	p := *c
	p.Objects = slices.Clone(c.Objects)
	for i := range p.Objects {
		if o := &p.Objects[i]; len(o.Unit) > 0 {
			o.Kind, o.Unit = api.OPackage, make([]api.Unit, 1)
		}
	}
	return p
}
