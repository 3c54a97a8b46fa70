// Package fault makes the faults that are found in trees.
package fault

import (
	"strings"

	"justiciar/api"
)

// Expr returns a fault at an expression, which has the name of a name, a function or an operation; of all others none.
func Expr(code api.Errno, e *api.Expr) api.Fault {
	return api.Fault{Code: code, Name: nameOf(e), Line: e.Line, Col: e.Col}
}

func nameOf(e *api.Expr) string {
	switch {
	case e.Op == api.EStar:
		return "count"
	case len(e.Path) > 0:
		return strings.Join(e.Path, ".")
	}
	return e.Text
}
