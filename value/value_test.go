package value_test

import (
	"testing"

	"justiciar/api"
	"justiciar/value"
)

// P1.1
func TestValid(t *testing.T) {
	for _, v := range samples() {
		if !value.Valid(v) {
			t.Error("not valid:", v)
		}
	}
	for what, v := range invalid() {
		if value.Valid(v) {
			t.Error("valid:", what)
		}
	}
	for c := range 256 {
		if got, want := value.Valid(str("a"+string([]byte{byte(c)})+"b")), 32 <= c && c <= 126; got != want {
			t.Errorf("a string with byte %d: %v", c, got)
		}
	}
}

// P1.1
func TestIsRow(t *testing.T) {
	full := make(api.Row, api.MaxCols)
	full[3] = num(5)
	for _, r := range []api.Row{nil, {}, {null}, {num(1), str("a"), yes, null}, full} {
		if !value.IsRow(r) {
			t.Error("no row:", r)
		}
	}
	if value.IsRow(make(api.Row, api.MaxCols+1)) {
		t.Error("a row of too many values")
	}
	for what, v := range invalid() {
		if value.IsRow(api.Row{num(1), v}) || value.IsRow(api.Row{v, num(1)}) {
			t.Error("a row with", what)
		}
	}
}

// P1.1
func TestSame(t *testing.T) {
	all := samples()
	for _, v := range invalid() {
		all = append(all, v)
	}
	for i, a := range all {
		for j, b := range all {
			if got := value.Same(a, b); got != (i == j) {
				t.Error(a, b, got)
			}
		}
	}
	if value.Same(num(0), no) || value.Same(null, num(0)) || value.Same(str(""), null) {
		t.Error("values of two kinds are the same")
	}
}

// P1.1
func TestSameRow(t *testing.T) {
	for _, c := range []struct {
		a, b api.Row
		want bool
	}{
		{nil, nil, true}, {nil, api.Row{}, true}, {api.Row{}, nil, true},
		{api.Row{null}, api.Row{null}, true}, {api.Row{num(1), str("a")}, api.Row{num(1), str("a")}, true},
		{api.Row{null}, nil, false}, {nil, api.Row{null}, false},
		{api.Row{num(1)}, api.Row{num(1), null}, false}, {api.Row{num(1), null}, api.Row{num(1)}, false},
		{api.Row{num(1), num(2)}, api.Row{num(2), num(1)}, false}, {api.Row{num(1), num(2)}, api.Row{num(1), num(3)}, false},
		{api.Row{num(1)}, api.Row{yes}, false}, {api.Row{str("a")}, api.Row{str("b")}, false},
	} {
		if got := value.SameRow(c.a, c.b); got != c.want {
			t.Error(c.a, c.b, got)
		}
	}
}

// P1.9
func TestTrue(t *testing.T) {
	for _, v := range samples() {
		if got := value.True(v); got != (v == yes) {
			t.Error(v, got)
		}
	}
	for what, v := range invalid() {
		if value.True(v) {
			t.Error("true:", what)
		}
	}
}
