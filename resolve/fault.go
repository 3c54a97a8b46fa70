package resolve

import (
	"strings"

	"justiciar/api"
	"justiciar/kind"
)

// The faults that a resolver raises: an error, and where it is found.
type (
	exprFault struct {
		code api.Errno
		at   *api.Expr
	}
	sourceFault struct {
		code api.Errno
		at   *api.Source
	}
	queryFault struct {
		code api.Errno
		at   *api.Query
	}
	changeFault struct {
		code api.Errno
		at   *api.Change
		name string
	}
)

// settled returns what a closure makes of something; or nothing, and the fault that it raises.
func settled[T any](x T, find func(x *T)) (found T, f api.Fault) {
	defer func() {
		if raised := recover(); raised != nil {
			var none T
			found, f = none, faultOf(raised)
		}
	}()
	found = x
	find(&found)
	return found, f
}

func faultOf(raised any) api.Fault {
	switch x := raised.(type) {
	case exprFault:
		return api.Fault{Code: x.code, Name: nameOf(x.at), Line: x.at.Line, Col: x.at.Col}
	case sourceFault:
		return api.Fault{Code: x.code, Name: strings.Join(x.at.Path, "."), Line: x.at.Line, Col: x.at.Col}
	case queryFault:
		return api.Fault{Code: x.code, Line: x.at.Line, Col: x.at.Col}
	case changeFault:
		return api.Fault{Code: x.code, Name: x.name, Line: x.at.Line, Col: x.at.Col}
	default: // nothing else is raised, but no function of the package must panic
		return api.Fault{Code: api.ErrArg}
	}
}

// nameOf returns the name of a fault at an expression: that of a name, a function or an operation; of all others nothing.
func nameOf(e *api.Expr) string {
	switch {
	case e.Op == api.EStar:
		return "count"
	case len(e.Path) > 0:
		return strings.Join(e.Path, ".")
	}
	return e.Text
}

// want raises a fault, unless something is as it should be.
func want(ok bool, fault any) {
	if !ok {
		panic(fault)
	}
}

// wantBools raises a fault at the first of some expressions, whose kinds are known, that is no bool.
func wantBools(l []api.Expr, kinds []api.Kind) {
	for i, k := range kinds {
		want(kind.Fit(k, api.VBool), exprFault{api.ErrType, &l[i]})
	}
}
