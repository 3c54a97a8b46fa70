package resolve

import (
	"strings"

	"justiciar/api"
	"justiciar/fault"
	"justiciar/kind"
)

// The faults that a resolver raises: an error, and where it is found.
type (
	exprFault struct {
		code api.Errno
		at   *api.Expr
	}
	sourceFault struct {
		code api.Errno
		at   *api.Source
	}
	queryFault struct {
		code api.Errno
		at   *api.Query
	}
	changeFault struct {
		code api.Errno
		at   *api.Change
		name string
	}
)

// settled returns what a closure makes of something; or nothing, and the fault that it raises.
func settled[T any](x T, find func(x *T)) (found T, f api.Fault) {
	defer func() {
		if raised := recover(); raised != nil {
			var none T
			found, f = none, faultOf(raised)
		}
	}()
	found = x
	find(&found)
	return found, f
}

func faultOf(raised any) api.Fault {
	switch x := raised.(type) {
	case exprFault:
		return fault.Expr(x.code, x.at)
	case sourceFault:
		return api.Fault{Code: x.code, Name: strings.Join(x.at.Path, "."), Line: x.at.Line, Col: x.at.Col}
	case queryFault:
		return api.Fault{Code: x.code, Line: x.at.Line, Col: x.at.Col}
	case changeFault:
		return api.Fault{Code: x.code, Name: x.name, Line: x.at.Line, Col: x.at.Col}
	default: // nothing else is raised, but no function of the package must panic
		return api.Fault{Code: api.ErrArg}
	}
}

// want raises a fault, unless something is as it should be.
func want(ok bool, raised any) {
	if !ok {
		panic(raised)
	}
}

// wantBools raises a fault at the first of some expressions, whose kinds are known, that is no bool.
func wantBools(l []api.Expr, kinds []api.Kind) {
	for i, k := range kinds {
		want(kind.Fit(k, api.VBool), exprFault{api.ErrType, &l[i]})
	}
}
