package kind

import (
	"cmp"

	"justiciar/api"
)

// Of returns the kind of what an expression gives whose Kids are of some kinds: it, or ErrType and where that is found, at the expression or one of its Kids. Names, calls, queries and marks are ErrKind: of which kind they are is not said by their Kids.
func Of(e *api.Expr, kids []api.Kind) (api.Kind, *api.Expr, api.Errno) {
	switch e.Op {
	case api.EConst:
		return e.Val.Kind, e, api.OK
	case api.EUnary, api.EBinary:
		k, code := Operation(e.Text, kids...)
		return k, e, code
	case api.ENull:
		return api.VBool, e, api.OK
	case api.EIn, api.EBetween:
		_, at := alike(kids, func(int) bool { return true })
		return of(e, api.VBool, at)
	case api.ECase:
		k, at := choice(kids)
		return of(e, k, at)
	}
	return api.VNull, e, api.ErrKind
}

// of returns what Of does, of an expression of a kind, unless one of its Kids is wrong: that of a number from 0 on.
func of(e *api.Expr, k api.Kind, at int) (api.Kind, *api.Expr, api.Errno) {
	if at < 0 {
		return k, e, api.OK
	}
	return api.VNull, &e.Kids[at], api.ErrType
}

// choice returns the kind of what a case gives, and -1, or which one of its Kids is wrong: these are conditions, each with what is given then, and perhaps one more, that is given else.
func choice(kids []api.Kind) (api.Kind, int) {
	isCondition := func(i int) bool { return i%2 == 0 && i < len(kids)-1 }
	for i, k := range kids {
		if isCondition(i) && !Fit(k, api.VBool) {
			return api.VNull, i
		}
	}
	return alike(kids, func(i int) bool { return !isCondition(i) })
}

// alike returns the one kind of those that a closure wants, and -1, or the first that is another one than those before it.
func alike(kids []api.Kind, wanted func(i int) bool) (api.Kind, int) {
	common := api.VNull
	for i, k := range kids {
		if !wanted(i) {
			continue
		}
		if !Fit(k, common) {
			return api.VNull, i
		}
		common = cmp.Or(common, k)
	}
	return common, -1
}
