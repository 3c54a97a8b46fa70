package value

import "justiciar/api"

// operation is one between two values that are valid.
type operation struct {
	takes     api.Kind
	seesNulls bool // else the result is null, if an operand is
	do        func(a, b api.Value) (api.Value, api.Errno)
}

// Unary returns the result of an operation of one value.
func Unary(op string, a api.Value) (api.Value, api.Errno) {
	takes, known := map[string]api.Kind{"-": api.VInt, "not": api.VBool}[op]
	switch {
	case !known || !Valid(a):
		return api.Value{}, api.ErrArg
	case !oneKind(takes, a):
		return api.Value{}, api.ErrType
	case someNull(a):
		return api.Value{}, api.OK
	case takes == api.VInt:
		return integer(-a.N), api.OK
	}
	return boolean(!True(a)), api.OK
}

// Binary returns the result of an operation between two values.
func Binary(op string, a, b api.Value) (api.Value, api.Errno) {
	o, known := operationOf(op)
	if !known || !allValid(a, b) {
		return api.Value{}, api.ErrArg
	}
	if !oneKind(o.takes, a, b) {
		return api.Value{}, api.ErrType
	}
	if someNull(a, b) && !o.seesNulls {
		return api.Value{}, api.OK
	}
	return o.do(a, b)
}

// operationOf looks in one small map after the other, as all are built anew for each call.
func operationOf(op string) (operation, bool) {
	if f, ok := comparisonOf(op); ok {
		return operation{takes: anyKind, do: f}, true
	}
	if f, ok := junctionOf(op); ok {
		return operation{takes: api.VBool, seesNulls: true, do: f}, true
	}
	if f, ok := arithmeticOf(op); ok {
		return operation{takes: api.VInt, do: f}, true
	}
	if f, ok := ofTextsOf(op); ok {
		return operation{takes: api.VText, do: f}, true
	}
	return operation{}, false
}

func comparisonOf(op string) (func(a, b api.Value) (api.Value, api.Errno), bool) {
	type signs struct{ less, equal, greater bool }
	holds, ok := map[string]signs{
		"=":  {equal: true},
		"<>": {less: true, greater: true},
		"<":  {less: true},
		"<=": {less: true, equal: true},
		">":  {greater: true},
		">=": {equal: true, greater: true},
	}[op]
	return func(a, b api.Value) (api.Value, api.Errno) {
		switch compare(a, b) {
		case -1:
			return boolean(holds.less), api.OK
		case 0:
			return boolean(holds.equal), api.OK
		}
		return boolean(holds.greater), api.OK
	}, ok
}

// junctionOf returns and, or: the truth that decides alone, if an operand has it, else null, if one is null.
func junctionOf(op string) (func(a, b api.Value) (api.Value, api.Errno), bool) {
	decides, ok := map[string]bool{"and": false, "or": true}[op]
	return func(a, b api.Value) (api.Value, api.Errno) {
		if a == boolean(decides) || b == boolean(decides) {
			return boolean(decides), api.OK
		}
		if someNull(a, b) {
			return api.Value{}, api.OK
		}
		return boolean(!decides), api.OK
	}, ok
}

func arithmeticOf(op string) (func(a, b api.Value) (api.Value, api.Errno), bool) {
	f, ok := map[string]func(a, b int) (api.Value, api.Errno){
		"+":   func(a, b int) (api.Value, api.Errno) { return checkedInteger(a + b) },
		"-":   func(a, b int) (api.Value, api.Errno) { return checkedInteger(a - b) },
		"*":   times,
		"/":   divided(func(a, b int) int { return a / b }),
		"mod": divided(func(a, b int) int { return a % b }),
	}[op]
	return func(a, b api.Value) (api.Value, api.Errno) { return f(a.N, b.N) }, ok
}

// times divides before it multiplies, as a product of two integers may not fit into an int.
func times(a, b int) (api.Value, api.Errno) {
	if a != 0 && absolute(b) > api.MaxInt/absolute(a) {
		return api.Value{}, api.ErrRange
	}
	return integer(a * b), api.OK
}

func divided(part func(a, b int) int) func(a, b int) (api.Value, api.Errno) {
	return func(a, b int) (api.Value, api.Errno) {
		if b == 0 {
			return api.Value{}, api.ErrZero
		}
		return integer(part(a, b)), api.OK
	}
}

func absolute(n int) int { return max(n, -n) }

func ofTextsOf(op string) (func(a, b api.Value) (api.Value, api.Errno), bool) {
	f, ok := map[string]func(a, b string) (api.Value, api.Errno){
		"||":   func(a, b string) (api.Value, api.Errno) { return checkedText(a + b) },
		"like": func(a, b string) (api.Value, api.Errno) { return boolean(isLike(a, b)), api.OK },
	}[op]
	return func(a, b api.Value) (api.Value, api.Errno) { return f(a.Text, b.Text) }, ok
}

// isLike reports whether a string is as a pattern says. It goes through the string once, with all places of the pattern up to which what has been read may reach.
func isLike(s, pattern string) bool {
	places, before := make([]bool, len(pattern)+1), make([]bool, len(pattern)+1)
	reach := func(at int) { // a % stands for no bytes, too: places behind it are skipped to
		places[at] = true
		for at < len(pattern) && pattern[at] == '%' {
			at++
			places[at] = true
		}
	}
	reach(0)
	for _, letter := range s {
		places, before = before, places
		clear(places)
		for at, sign := range pattern {
			if !before[at] {
				continue
			}
			switch sign {
			case '%':
				reach(at)
			case '_', letter:
				reach(at + 1)
			}
		}
	}
	return places[len(pattern)]
}

// In reports whether a value is one of others: the or of what = says of each, up to the first that is true.
func In(a api.Value, l []api.Value) (api.Value, api.Errno) {
	if !Valid(a) || !allValid(l...) {
		return api.Value{}, api.ErrArg
	}
	found := boolean(false)
	for _, v := range l {
		if !oneKind(anyKind, a, v) {
			return api.Value{}, api.ErrType
		}
		if someNull(a, v) {
			found = api.Value{}
		} else if compare(a, v) == 0 {
			return boolean(true), api.OK
		}
	}
	return found, api.OK
}

// Between reports whether a value is between two others.
func Between(a, b, c api.Value) (api.Value, api.Errno) {
	if !allValid(a, b, c) {
		return api.Value{}, api.ErrArg
	}
	low, e := Binary(">=", a, b)
	if e != api.OK {
		return api.Value{}, e
	}
	high, e := Binary("<=", a, c)
	if e != api.OK {
		return api.Value{}, e
	}
	return Binary("and", low, high)
}
