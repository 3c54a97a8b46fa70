// Package where takes the conditions of resolved queries and changes apart: layer 8 says into which parts.
package where

import (
	"justiciar/api"
	"justiciar/list"
	"justiciar/value"
)

// Equal is what a simple part says: that a column of a source is equal to a value.
type Equal struct {
	Source, Col int
	Val         api.Value
}

// Split returns the parts of a condition, if there is one: what the simple ones say, and the others, both from the left.
func Split(l []api.Expr, binds []api.Bind) ([]Equal, []*api.Expr) {
	var simple []Equal
	var others []*api.Expr
	var look func(e *api.Expr) bool
	look = func(e *api.Expr) bool {
		if e.Op == api.EBinary && e.Text == "and" {
			return list.Each(e.Kids, look)
		}
		if said, ok := isSimple(e, binds); ok {
			simple = append(simple, said)
		} else {
			others = append(others, e)
		}
		return true
	}
	list.Each(l, look)
	return simple, others
}

// isSimple returns what a part says, if it is a simple one.
func isSimple(e *api.Expr, binds []api.Bind) (Equal, bool) {
	if e.Op != api.EBinary || e.Text != "=" {
		return Equal{}, false
	}
	for i := range e.Kids {
		column, other := &e.Kids[i], &e.Kids[len(e.Kids)-1-i]
		v, known := valueOf(other, binds)
		if known && column.Op == api.ECol && column.A == 0 {
			return Equal{column.B, column.C, v}, true
		}
	}
	return Equal{}, false
}

// valueOf returns the value of a constant or a bind.
func valueOf(e *api.Expr, binds []api.Bind) (api.Value, bool) {
	switch e.Op {
	case api.EConst:
		return e.Val, true
	case api.EBind:
		return binds[e.A].Val, true
	}
	return api.Value{}, false
}

// Holds reports whether that is true of a row of the source, in which values may be missing at the end: they are null.
func (e Equal) Holds(r api.Row) bool {
	if e.Col >= len(r) {
		return false
	}
	v, _ := value.Binary("=", r[e.Col], e.Val)
	return value.True(v)
}
