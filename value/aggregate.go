package value

import "justiciar/api"

// Aggregate returns the result of an aggregate.
func Aggregate(name string, l []api.Value) (api.Value, api.Errno) {
	if !allValid(l...) {
		return api.Value{}, api.ErrArg
	}
	f, known := aggregateOf(name)
	if !known {
		return api.Value{}, api.ErrName
	}
	return f(l...)
}

// IsAggregate reports whether there is an aggregate of that name.
func IsAggregate(name string) bool {
	_, known := aggregateOf(name)
	return known
}

// aggregateOf returns an aggregate of values that are valid.
func aggregateOf(name string) (func(l ...api.Value) (api.Value, api.Errno), bool) {
	f, ok := map[string]func(l ...api.Value) (api.Value, api.Errno){
		"count": count,
		"sum":   sum,
		"min":   ofOneKind(outermost(-1)),
		"max":   ofOneKind(outermost(1)),
	}[name]
	return f, ok
}

func count(l ...api.Value) (api.Value, api.Errno) {
	n := 0
	for _, v := range l {
		if !someNull(v) {
			n++
		}
	}
	return integer(n), api.OK
}

func ofOneKind(f func(l ...api.Value) (api.Value, api.Errno)) func(l ...api.Value) (api.Value, api.Errno) {
	return func(l ...api.Value) (api.Value, api.Errno) {
		if !oneKind(anyKind, l...) {
			return api.Value{}, api.ErrType
		}
		return f(l...)
	}
}

// sum counts multiples of MaxInt apart, as a part of the list may leave the range, and even that of an int, while the whole does not.
func sum(l ...api.Value) (api.Value, api.Errno) {
	if !oneKind(api.VInt, l...) {
		return api.Value{}, api.ErrType
	}
	found, multiples, rest := false, 0, 0
	for _, v := range l {
		if someNull(v) {
			continue
		}
		found = true
		rest += v.N
		multiples += rest / api.MaxInt
		rest %= api.MaxInt
	}
	switch {
	case !found:
		return api.Value{}, api.OK
	case absolute(multiples) > 1: // rest, below MaxInt, cannot lead back into the range
		return api.Value{}, api.ErrRange
	}
	return checkedInteger(multiples*api.MaxInt + rest)
}
