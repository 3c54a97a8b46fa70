package answer

import "justiciar/api"

// want raises an error, unless something is as it should be.
func want(ok bool, code api.Errno) {
	if !ok {
		panic(code)
	}
}

func wantOK(code api.Errno) { want(code == api.OK, code) }

// right returns the value that layer 1 has given, if there is no error with it.
func right(v api.Value, code api.Errno) api.Value {
	wantOK(code)
	return v
}

// caught returns what a closure gives; or nothing, and the error that it raises.
func caught[T any](give func() T) (given T, code api.Errno) {
	defer func() {
		if raised := recover(); raised != nil {
			var none T
			given, code = none, codeOf(raised)
		}
	}()
	return give(), api.OK
}

func codeOf(raised any) api.Errno {
	switch x := raised.(type) {
	case api.Errno:
		return x
	default: // nothing else is raised, but no function of the package must panic
		return api.ErrArg
	}
}
