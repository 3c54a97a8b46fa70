package kind_test

import (
	"fmt"
	"slices"
	"testing"

	"justiciar/api"
	"justiciar/kind"
	"justiciar/value"
)

// kinds returns all kinds, that of null first.
func kinds() []api.Kind { return []api.Kind{api.VNull, api.VInt, api.VText, api.VBool} }

// lists returns all lists of n kinds.
func lists(n int) [][]api.Kind {
	if n == 0 {
		return [][]api.Kind{nil}
	}
	var out [][]api.Kind
	for _, l := range lists(n - 1) {
		for _, k := range kinds() {
			out = append(out, append(slices.Clone(l), k))
		}
	}
	return out
}

// values returns all lists of values, different ones for all places, of some kinds: for VNull values of each kind.
func values(l []api.Kind) [][]api.Value {
	out := [][]api.Value{nil}
	for i, k := range l {
		var longer [][]api.Value
		for _, v := range []api.Value{{Kind: api.VInt, N: i + 1}, {Kind: api.VText, Text: fmt.Sprint(i + 1)}, {Kind: api.VBool, N: i % 2}} {
			for _, shorter := range out {
				if k == api.VNull || k == v.Kind {
					longer = append(longer, append(slices.Clone(shorter), v))
				}
			}
		}
		out = longer
	}
	return out
}

// reckoned returns the kind of what layer 1 gives for values of some kinds, VNull, if it may be of several, and its error, if it has one for all of them.
func reckoned(do func(l []api.Value) (api.Value, api.Errno), l []api.Kind) (api.Kind, api.Errno) {
	var given []api.Kind
	var code api.Errno
	for _, some := range values(l) {
		v, e := do(some)
		if e != api.OK {
			code = e
		} else if !slices.Contains(given, v.Kind) {
			given = append(given, v.Kind)
		}
	}
	switch len(given) {
	case 0:
		return api.VNull, code
	case 1:
		return given[0], api.OK
	}
	return api.VNull, api.OK
}

func expect(t *testing.T, what string, l []api.Kind, got api.Kind, code api.Errno, want api.Kind, wantCode api.Errno) {
	t.Helper()
	if got != want || code != wantCode {
		t.Errorf("%s of %v: kind %d error %d, want kind %d error %d", what, l, got, code, want, wantCode)
	}
}

func TestOperation(t *testing.T) {
	for _, op := range []string{"-", "not"} {
		for _, l := range lists(1) {
			got, code := kind.Operation(op, l...)
			want, wantCode := reckoned(func(v []api.Value) (api.Value, api.Errno) { return value.Unary(op, v[0]) }, l)
			expect(t, op, l, got, code, want, wantCode)
		}
	}
	for _, op := range []string{"+", "-", "*", "/", "mod", "||", "=", "<>", "<", "<=", ">", ">=", "and", "or", "like"} {
		for _, l := range lists(2) {
			got, code := kind.Operation(op, l...)
			want, wantCode := reckoned(func(v []api.Value) (api.Value, api.Errno) { return value.Binary(op, v[0], v[1]) }, l)
			expect(t, op, l, got, code, want, wantCode)
		}
	}
	for _, op := range []string{"", "in", "abs", "!="} {
		for n := range 4 {
			got, code := kind.Operation(op, make([]api.Kind, n)...)
			expect(t, op, nil, got, code, api.VNull, api.ErrName)
		}
	}
	for _, n := range []int{0, 3} {
		got, code := kind.Operation("+", make([]api.Kind, n)...)
		expect(t, "+", nil, got, code, api.VNull, api.ErrCount)
	}
}

func TestCall(t *testing.T) {
	for _, name := range []string{"abs", "sign", "length", "upper", "lower", "substr", "to_text", "to_int", "nvl", "nullif", "least", "greatest", "", "none", "a.abs", "ABS", "not"} {
		for n := range 5 {
			for _, l := range lists(n) {
				got, code := kind.Call(name, l...)
				want, wantCode := reckoned(func(v []api.Value) (api.Value, api.Errno) { return value.Call(name, v) }, l)
				expect(t, name, l, got, code, want, wantCode)
			}
		}
	}
}

// An aggregate is of one list of values, so of the kinds of one value.
func TestCallAggregate(t *testing.T) {
	for _, name := range []string{"count", "sum", "min", "max"} {
		for _, l := range lists(1) {
			got, code := kind.Call(name, l...)
			want, wantCode := reckoned(func(v []api.Value) (api.Value, api.Errno) { return value.Aggregate(name, v) }, l)
			expect(t, name, l, got, code, want, wantCode)
		}
		for _, n := range []int{0, 2, 3} {
			for _, l := range lists(n) {
				got, code := kind.Call(name, l...)
				expect(t, name, l, got, code, api.VNull, api.ErrCount)
			}
		}
	}
}

func TestFit(t *testing.T) {
	for _, a := range kinds() {
		for _, b := range kinds() {
			if got := kind.Fit(a, b); got != (a == api.VNull || b == api.VNull || a == b) {
				t.Error(a, b, got)
			}
		}
	}
}
