package value_test

import (
	"strings"
	"testing"

	"justiciar/api"
	"justiciar/value"
)

// P1.7
func TestText(t *testing.T) {
	for _, c := range []struct {
		v    api.Value
		want string
	}{
		{null, "null"}, {num(0), "0"}, {num(-7), "-7"}, {num(most), "1099511627776"}, {num(-most), "-1099511627776"}, {yes, "true"}, {no, "false"},
		{str(""), "''"}, {str("a b"), "'a b'"}, {str("it's"), "'it''s'"}, {str("'"), "''''"}, {str("''"), "''''''"}, {str("'a'"), "'''a'''"}, {str("'a"), "'''a'"}, {str("a'"), "'a'''"}, {str("null"), "'null'"}, {str("1"), "'1'"}, {str("a\\\"%"), "'a\\\"%'"}, {str(longest()), "'" + longest() + "'"},
	} {
		if got, e := value.Text(c.v); got != c.want || e != api.OK {
			t.Error(c.v, got, e)
		}
		got, e := value.Parse(c.want)
		expect(t, c.want, got, e, c.v, api.OK)
	}
	for what, v := range invalid() {
		if got, e := value.Text(v); got != "" || e != api.ErrArg {
			t.Error(what, got, e)
		}
	}
}

// P1.7: what no Text is.
func TestParseErrors(t *testing.T) {
	for _, s := range []string{"", " ", "nul", "NULL", "Null", "null ", " null", "True", "TRUE", "truefalse", "t", "1 ", " 1", "+1", "-", "--1", "-0", "00", "01", "-01", "1.0", "1e2", "0x10", "1_0", "1099511627777", "-1099511627777", "9223372036854775807", "-9223372036854775808", "9223372036854775808", strings.Repeat("9", 1000),
		"'", "'a", "a'", "a", "'''", "'a'b'", "'a''", "''a'", "'a'''b'", "'''''", "'a' ", " 'a'", "'a''b", "'a','b'", "\"a\"", "'\n'", "'\x1f'", "'\x7f'", "'ä'", "'\xff'", "'" + longest() + "x'", "'" + longest() + "'''", strings.Repeat("'", 2*api.MaxText+4), strings.Repeat("'", 1<<16)} {
		got, e := value.Parse(s)
		expect(t, s, got, e, null, api.ErrForm)
	}
	quotes := strings.Repeat("'", 2*api.MaxText+2)
	got, e := value.Parse(quotes)
	expect(t, "as many ' as there may be", got, e, str(strings.Repeat("'", api.MaxText)), api.OK)
}

// P1.7: of all short strings just those are read that some value's Text is.
func TestParseIsText(t *testing.T) {
	for _, s := range words("'a-01", 5) {
		v, e := value.Parse(s)
		if e != api.OK {
			expect(t, s, v, e, null, api.ErrForm)
			continue
		}
		if got, e := value.Text(v); got != s || e != api.OK {
			t.Error(s, v, got, e)
		}
	}
}
