package check

import "justiciar/api"

// sort is what a thing is.
type sort int

const (
	aValue sort = iota + 1 // or an array
	aRecord
	aCursor
	anException
	aSub
)

// thing is what a name or a path means in a program.
type thing struct {
	sort
	typ   api.Type    // of a value or an array
	set   bool        // it can be assigned
	bound bool        // it is a bind of the queries and changes that name it
	cols  []api.Named // of a record or a cursor
	sub   *api.Sub
}

// variable returns the thing that a variable or a parameter is.
func variable(typ api.Type, set bool) thing {
	return thing{sort: aValue, typ: typ, set: set, bound: !typ.Array}
}

// fixed returns the thing that a value of a kind is that cannot be assigned.
func fixed(k api.Kind) thing { return variable(api.Type{Base: k}, false) }

// asked returns the thing that a value of a kind is that no query and no change can name.
func asked(k api.Kind) thing { return thing{sort: aValue, typ: api.Type{Base: k}} }

// subOf returns the thing that a sub is.
func subOf(s *api.Sub) thing { return thing{sort: aSub, sub: s} }

func (t thing) isArray() bool { return t.sort == aValue && t.typ.Array }

// scope is what names mean somewhere in a program. All other names mean what they do around it.
type scope struct {
	things map[string]thing
	around *scope
}

// find returns what a name means within the program.
func (s *scope) find(name string) (thing, bool) {
	for ; s != nil; s = s.around {
		if t, ok := s.things[name]; ok {
			return t, true
		}
	}
	return thing{}, false
}

// place is where a part of a program stands.
type place struct {
	*program
	names   *scope
	sub     *api.Sub // nil in a block from outside, and in the declarations of a package
	loop    bool     // within a loop
	handler bool     // within a handler
}

// within returns the place within a scope of things, to which more may still come.
func (p place) within(things map[string]thing) place {
	p.names = &scope{things, p.names}
	return p
}

// with returns the place where a name means a thing.
func (p place) with(name string, t thing) place {
	return p.within(map[string]thing{name: t})
}

// inLoop returns the place within a loop.
func (p place) inLoop() place {
	p.loop = true
	return p
}

// inHandler returns the place within a handler.
func (p place) inHandler() place {
	p.handler = true
	return p
}
