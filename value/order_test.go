package value_test

import (
	"testing"

	"justiciar/api"
	"justiciar/value"
)

// P1.6
func TestOrder(t *testing.T) {
	for _, c := range []struct {
		a, b api.Value
		want int
		e    api.Errno
	}{
		{num(1), num(2), -1, api.OK}, {num(2), num(1), 1, api.OK}, {num(2), num(2), 0, api.OK}, {num(-most), num(most), -1, api.OK}, {num(most), num(-most), 1, api.OK}, {num(-1), num(0), -1, api.OK},
		{str("a"), str("b"), -1, api.OK}, {str("a"), str("ab"), -1, api.OK}, {str("b"), str("ab"), 1, api.OK}, {str(""), str(""), 0, api.OK}, {str("B"), str("a"), -1, api.OK}, {str("10"), str("9"), -1, api.OK},
		{no, yes, -1, api.OK}, {yes, no, 1, api.OK}, {yes, yes, 0, api.OK},
		{null, null, 0, api.OK}, {null, num(most), 1, api.OK}, {num(0), null, -1, api.OK}, {null, str(""), 1, api.OK}, {str("~"), null, -1, api.OK}, {null, no, 1, api.OK}, {yes, null, -1, api.OK},
		{num(1), str("1"), 0, api.ErrType}, {yes, num(1), 0, api.ErrType}, {str(""), no, 0, api.ErrType}, {no, num(0), 0, api.ErrType},
	} {
		if got, e := value.Order(c.a, c.b); got != c.want || e != c.e {
			t.Error(c.a, c.b, got, e)
		}
	}
	for what, v := range invalid() {
		for _, w := range samples() {
			if got, e := value.Order(v, w); got != 0 || e != api.ErrArg {
				t.Error(what, w, got, e)
			}
			if got, e := value.Order(w, v); got != 0 || e != api.ErrArg {
				t.Error(w, what, got, e)
			}
		}
	}
}
