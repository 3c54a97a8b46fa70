package value

import (
	"strconv"
	"strings"

	"justiciar/api"
)

// function is one of values that are valid: of as many as takes says, each of its kind; all of one kind, where that is anyKind.
type function struct {
	takes     []api.Kind
	seesNulls bool // else the result is null, if an argument is
	do        func(l ...api.Value) (api.Value, api.Errno)
}

// Call returns the result of a function.
func Call(name string, l []api.Value) (api.Value, api.Errno) {
	if !allValid(l...) {
		return api.Value{}, api.ErrArg
	}
	f, known := functionOf(name)
	if !known {
		return api.Value{}, api.ErrName
	}
	if len(l) != len(f.takes) {
		return api.Value{}, api.ErrCount
	}
	if !f.fits(l...) {
		return api.Value{}, api.ErrType
	}
	if someNull(l...) && !f.seesNulls {
		return api.Value{}, api.OK
	}
	return f.do(l...)
}

// Builtin reports whether there is a function of that name.
func Builtin(name string) bool {
	_, known := functionOf(name)
	return known
}

// fits reports whether the arguments are of the kinds that the function takes.
func (f function) fits(l ...api.Value) bool {
	for i, kind := range f.takes {
		if kind == anyKind {
			return oneKind(anyKind, l...)
		}
		if !oneKind(kind, l[i]) {
			return false
		}
	}
	return true
}

// functionOf looks in one small map after the other, as all are built anew for each call.
func functionOf(name string) (function, bool) {
	if f, ok := ofIntegerOf(name); ok {
		return function{takes: []api.Kind{api.VInt}, do: f}, true
	}
	if f, ok := ofTextOf(name); ok {
		return function{takes: []api.Kind{api.VText}, do: f}, true
	}
	if f, ok := ofTwoOf(name); ok {
		return f, true
	}
	if name == "substr" {
		return function{takes: []api.Kind{api.VText, api.VInt, api.VInt}, do: substr}, true
	}
	return function{}, false
}

func ofIntegerOf(name string) (func(l ...api.Value) (api.Value, api.Errno), bool) {
	f, ok := map[string]func(n int) api.Value{
		"abs":     func(n int) api.Value { return integer(absolute(n)) },
		"sign":    func(n int) api.Value { return integer(compare(integer(n), integer(0))) },
		"to_text": func(n int) api.Value { return text(strconv.Itoa(n)) },
	}[name]
	return func(l ...api.Value) (api.Value, api.Errno) { return f(l[0].N), api.OK }, ok
}

func ofTextOf(name string) (func(l ...api.Value) (api.Value, api.Errno), bool) {
	f, ok := map[string]func(s string) (api.Value, api.Errno){
		"length": func(s string) (api.Value, api.Errno) { return integer(len(s)), api.OK },
		"upper":  func(s string) (api.Value, api.Errno) { return text(shifted(s, 'a', 'A')), api.OK },
		"lower":  func(s string) (api.Value, api.Errno) { return text(shifted(s, 'A', 'a')), api.OK },
		"to_int": toInt,
	}[name]
	return func(l ...api.Value) (api.Value, api.Errno) { return f(l[0].Text) }, ok
}

// shifted puts the letters of one alphabet, that begins with from, into the places of those of another one.
func shifted(s string, from, to rune) string {
	var b strings.Builder
	for _, letter := range s {
		if from <= letter && letter < from+26 {
			letter += to - from
		}
		b.WriteRune(letter)
	}
	return b.String()
}

func toInt(s string) (api.Value, api.Errno) {
	n, err := strconv.Atoi(s)
	if err != nil || strconv.Itoa(n) != s { // Atoi reads +1 and 01, too
		return api.Value{}, api.ErrRange
	}
	return checkedInteger(n)
}

// substr compares many with what is left, so that no sum of the two is needed.
func substr(l ...api.Value) (api.Value, api.Errno) {
	s := l[0].Text
	from := min(max(l[1].N, 1)-1, len(s))
	many := min(max(l[2].N, 0), len(s)-from)
	return text(s[from : from+many]), api.OK
}

func ofTwoOf(name string) (function, bool) {
	f, ok := map[string]function{
		"nvl":      {seesNulls: true, do: nvl},
		"nullif":   {seesNulls: true, do: nullif},
		"least":    {do: outermost(-1)},
		"greatest": {do: outermost(1)},
	}[name]
	f.takes = []api.Kind{anyKind, anyKind}
	return f, ok
}

func nvl(l ...api.Value) (api.Value, api.Errno) {
	if someNull(l[0]) {
		return l[1], api.OK
	}
	return l[0], api.OK
}

// nullif is of nulls, too: null is equal to nothing, so the first one stays, whatever the second one is.
func nullif(l ...api.Value) (api.Value, api.Errno) {
	if l[0] == l[1] {
		return api.Value{}, api.OK
	}
	return l[0], api.OK
}

// outermost returns what finds the value that is on that side (-1 or 1) of all others that are not null, of values of one kind; null, if there is none.
func outermost(side int) func(l ...api.Value) (api.Value, api.Errno) {
	return func(l ...api.Value) (api.Value, api.Errno) {
		var best api.Value
		for _, v := range l {
			if !someNull(v) && (someNull(best) || compare(v, best) == side) {
				best = v
			}
		}
		return best, api.OK
	}
}
