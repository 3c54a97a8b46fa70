// Package value is layer 1: values, their operations, functions and aggregates, and the three truths.
package value

import "justiciar/api"

// Valid reports whether a value is null, an integer, a string or a bool, each in its range and with no other field.
func Valid(v api.Value) bool {
	switch v.Kind {
	case api.VNull:
		return v == api.Value{}
	case api.VInt:
		return inRange(v.N) && v.Text == ""
	case api.VText:
		return v.N == 0 && isText(v.Text)
	case api.VBool:
		return v == boolean(false) || v == boolean(true)
	}
	return false
}

// IsRow reports whether a row has at most MaxCols values, all of them valid.
func IsRow(r api.Row) bool { return len(r) <= api.MaxCols && allValid(r...) }

// Same reports whether two values are the same, field by field.
func Same(a, b api.Value) bool { return a == b }

// SameRow reports whether two rows have the same values.
func SameRow(a, b api.Row) bool {
	if len(a) != len(b) {
		return false
	}
	for i, v := range a {
		if v != b[i] {
			return false
		}
	}
	return true
}

// True reports whether a value is the bool true.
func True(v api.Value) bool { return v == boolean(true) }

func integer(n int) api.Value { return api.Value{Kind: api.VInt, N: n} }

func text(s string) api.Value { return api.Value{Kind: api.VText, Text: s} }

func boolean(b bool) api.Value {
	if b {
		return api.Value{Kind: api.VBool, N: 1}
	}
	return api.Value{Kind: api.VBool}
}

func inRange(n int) bool { return -api.MaxInt <= n && n <= api.MaxInt }

func isText(s string) bool {
	if len(s) > api.MaxText {
		return false
	}
	for i := range len(s) {
		if s[i] < 32 || s[i] > 126 {
			return false
		}
	}
	return true
}

func allValid(l ...api.Value) bool {
	for _, v := range l {
		if !Valid(v) {
			return false
		}
	}
	return true
}

func someNull(l ...api.Value) bool {
	for _, v := range l {
		if v.Kind == api.VNull {
			return true
		}
	}
	return false
}

// anyKind, as a kind that is taken, stands for every kind, if it is the same for all values.
const anyKind = api.VNull

// oneKind reports whether all values that are not null are of the kind, or, if that is anyKind, of one kind.
func oneKind(kind api.Kind, l ...api.Value) bool {
	for _, v := range l {
		if v.Kind == api.VNull {
			continue
		}
		if kind == anyKind {
			kind = v.Kind
		}
		if v.Kind != kind {
			return false
		}
	}
	return true
}

// checkedInteger returns an integer that a calculation gave.
func checkedInteger(n int) (api.Value, api.Errno) {
	if !inRange(n) {
		return api.Value{}, api.ErrRange
	}
	return integer(n), api.OK
}

// checkedText returns a string that a calculation gave.
func checkedText(s string) (api.Value, api.Errno) {
	if len(s) > api.MaxText {
		return api.Value{}, api.ErrRange
	}
	return text(s), api.OK
}
